import PyProof.Rows.All
import Wide.All
import OpenK.AllK
import Wide.FinOn
import HandS.ForMost
import HandS.IsInst
import HandS.EndBits
import HandS.Wide
import HandS.WideBits
import HandS.TupAny
import HandS.Codes
import HandS.Defaults
import HandS.ForExc
import HandS.TryMany
import HandS.ExcIs
import HandS.TryElse
import HandS.DictComp
import HandS.Walk
import HandS.NoneIn
import HandS.TupLe
import HandS.More
import HandS.Sort
import PySem.Challenge.RW_majordomo_k76_runs_and_restarts
set_option Elab.async false
set_option linter.all false
set_option maxRecDepth 100000
set_option maxHeartbeats 4000000

namespace My
open PySem PySem.Spec PyProof.Rows L2
/-! own words: tests, heaps, items -/
theorem ifd {p A B : Prop} [Decidable p] (h1 : p → A) (h2 : ¬ p → B) : if decide p = true then A else B := by
  by_cases h : p
  · rw [decide_eq_true h]; exact (if_pos rfl).mpr (h1 h)
  · rw [decide_eq_false h]; exact (if_neg Bool.false_ne_true).mpr (h2 h)
theorem ifn {p A B : Prop} [Decidable p] (h1 : ¬ p → A) (h2 : p → B) : if (!decide p) = true then A else B := by
  by_cases h : p
  · rw [decide_eq_true h]; exact (if_neg Bool.false_ne_true).mpr (h2 h)
  · rw [decide_eq_false h]; exact (if_pos rfl).mpr (h1 h)
theorem ift {p A B : Prop} [Decidable p] (h : p) (h1 : A) : if decide p = true then A else B := by
  rw [decide_eq_true h]; exact (if_pos rfl).mpr h1
theorem iff0 {p A B : Prop} [Decidable p] (h : ¬ p) (h1 : B) : if decide p = true then A else B := by
  rw [decide_eq_false h]; exact (if_neg Bool.false_ne_true).mpr h1
theorem ifnt {p A B : Prop} [Decidable p] (h : p) (h1 : B) : if (!decide p) = true then A else B := by
  rw [decide_eq_true h]; exact (if_neg Bool.false_ne_true).mpr h1
theorem ifbt {b : Bool} {A B : Prop} (h : b = true) (h1 : A) : if b = true then A else B := (if_pos h).mpr h1
theorem ifbf {b : Bool} {A B : Prop} (h : b = false) (h1 : B) : if b = true then A else B := by rw [h]; exact h1
theorem ifb2 {b : Bool} {A B : Prop} (h1 : b = true → A) (h2 : b = false → B) : if b = true then A else B := by
  cases b with
  | true => exact h1 rfl
  | false => exact h2 rfl
theorem same_upd {H : Hp} {p : Addr} {o : HO} (h : H p = none) : Same H (upd H p o) := fun b x e => by
  rw [upd_ne (ne_of_none e h)]
  exact e
theorem same_put {H H' : Hp} {p : Addr} {o : HO} (e : Same H H') (h : H p = none) : Same H (upd H' p o) := fun b x q => by
  rw [upd_ne (ne_of_none q h)]
  exact e b x q
theorem sqt_same {K : PySem.W.Frag} {H H' : Hp} {a : Addr} {xs : List V} (e : Same H H') (h : SqT K H a xs) : SqT K H' a xs := by
  rcases h with (h | ⟨o, h⟩) | h
  · exact .inl (.inl (e _ _ h))
  · exact .inl (.inr ⟨o, e _ _ h⟩)
  · exact .inr h
theorem sql {K : PySem.W.Frag} {H : Hp} {a : Addr} {xs : List V} (h : H a = some (.lst xs)) : SqL K H a xs := .inl (.inl h)
theorem sqt {K : PySem.W.Frag} {H : Hp} {a : Addr} {xs : List V} (h : H a = some (.tup xs)) : SqT K H a xs := .inl (.inl h)
theorem sz {n : Nat} (h : n ≤ 100000) : n ≤ sizeLine := Nat.le_trans h (by decide)
theorem szl {n : Nat} (h : n ≤ 100000) : n < sizeLine := Nat.lt_of_le_of_lt h (by decide)
theorem map_at {α : Type} {f : α → V} {xs : List α} {i : Nat} {y : V} (h : (xs.map f)[i]? = some y) : ∃ x, xs[i]? = some x ∧ y = f x := by
  rw [List.getElem?_map] at h
  cases e : xs[i]? with
  | none => rw [e] at h; cases h
  | some x => rw [e] at h; exact ⟨x, rfl, (Option.some.inj h).symm⟩
theorem at_map {α : Type} {f : α → V} {xs : List α} {i : Nat} {x : α} (h : xs[i]? = some x) : atI (xs.map f) (i : Int) = some (f x) := atI_nat (by rw [List.getElem?_map, h]; rfl)
theorem take_more {α : Type} {l : List α} {i : Nat} {x : α} (h : l[i]? = some x) : l.take (i + 1) = l.take i ++ [x] := by
  rw [List.take_add_one, h]; rfl
/-! deep data stands as long as what was tracked stands -/
mutual
theorem dp_same {K : PySem.W.Frag} {H H' : Hp} (e : Same H H') : ∀ (d : PyData) {v : V}, Dp K H v d → Dp K H' v d
  | _, _, .non => .non
  | _, _, .bl b => .bl b
  | _, _, .int i => .int i
  | _, _, .str x => .str x
  | .list ds, _, .lst h a => .lst (e.seq h) (dpa_same e ds a)
  | .tuple ds, _, .tup h a => .tup (sqt_same e h) (dpa_same e ds a)
theorem dpa_same {K : PySem.W.Frag} {H H' : Hp} (e : Same H H') : ∀ (ds : List PyData) {vs : List V}, DpAll K H vs ds → DpAll K H' vs ds
  | [], _, .nil => .nil
  | d :: ds, _, .cons h a => .cons (dp_same e d h) (dpa_same e ds a)
end
theorem dpa_len {K : PySem.W.Frag} {H : Hp} : ∀ {vs : List V} {ds : List PyData}, DpAll K H vs ds → vs.length = ds.length
  | _, _, .nil => rfl
  | _, _, .cons _ a => by rw [List.length_cons, List.length_cons, dpa_len a]
theorem dpa_at {K : PySem.W.Frag} {H : Hp} : ∀ {vs : List V} {ds : List PyData} {i : Nat} {v : V}, DpAll K H vs ds → vs[i]? = some v → ∃ d, ds[i]? = some d ∧ Dp K H v d
  | _, _, _, _, .nil, h => by simp at h
  | _, _, 0, _, .cons h _, e => ⟨_, rfl, by have := Option.some.inj e; subst this; exact h⟩
  | _, _, i + 1, _, .cons _ a, e => dpa_at (i := i) a (by simpa using e)
theorem dpa_app {K : PySem.W.Frag} {H : Hp} : ∀ {vs ws : List V} {ds es : List PyData}, DpAll K H vs ds → DpAll K H ws es → DpAll K H (vs ++ ws) (ds ++ es)
  | _, _, _, _, .nil, b => b
  | _, _, _, _, .cons h a, b => .cons h (dpa_app a b)
theorem eqv_self {d : PyData} (h : SeqAt.shaped d = true) : PyData.eqv d d = true := SeqAt.eqv_refl d (SeqAt.canLay_of_shaped h)
/-! data that may be compared -/
theorem layAll : ∀ {ds : List PyData}, (∀ d ∈ ds, d.canLay0 = true) → PyData.canLayAll0 ds = true
  | [], _ => rfl
  | d :: ds, h => by
    rw [PyData.canLayAll0, h d List.mem_cons_self, layAll fun e he => h e (List.mem_cons_of_mem _ he)]; rfl
theorem depAll {n : Nat} : ∀ {ds : List PyData}, (∀ d ∈ ds, d.depth ≤ n) → PyData.depthAll ds ≤ n
  | [], _ => Nat.zero_le _
  | d :: ds, h => by
    have h1 := h d List.mem_cons_self
    have h2 := depAll (ds := ds) fun e he => h e (List.mem_cons_of_mem _ he)
    simp only [PyData.depthAll]
    omega
/-- plain data of at most this depth -/
def Flat (n : Nat) (d : PyData) : Prop := d.canLay0 = true ∧ d.depth ≤ n
theorem flat_list {n : Nat} {ds : List PyData} (h : ∀ d ∈ ds, Flat n d) : Flat (n + 1) (.list ds) :=
  ⟨by rw [PyData.canLay0]; exact layAll fun d hd => (h d hd).1, by have := depAll (n := n) fun d hd => (h d hd).2; simp only [PyData.depth]; omega⟩
theorem flat_tup {n : Nat} {ds : List PyData} (h : ∀ d ∈ ds, Flat n d) : Flat (n + 1) (.tuple ds) :=
  ⟨by rw [PyData.canLay0]; exact layAll fun d hd => (h d hd).1, by have := depAll (n := n) fun d hd => (h d hd).2; simp only [PyData.depth]; omega⟩
theorem flat_int (n : Nat) (i : Int) : Flat n (.int i) := ⟨rfl, by simp [PyData.depth]⟩
theorem flat_str (n : Nat) (x : Str) (h : (PyData.str x).canLay0 = true := by decide +kernel) : Flat n (.str x) := ⟨h, by simp [PyData.depth]⟩
theorem flat_bl (n : Nat) (b : Bool) : Flat n (.bool b) := ⟨rfl, by simp [PyData.depth]⟩
theorem flat_non (n : Nat) : Flat n .none := ⟨rfl, by simp [PyData.depth]⟩
theorem Flat.mono {n m : Nat} {d : PyData} (h : Flat n d) (hm : n ≤ m) : Flat m d := ⟨h.1, Nat.le_trans h.2 hm⟩
theorem Flat.sh {n : Nat} {d : PyData} (h : Flat n d) (hn : n ≤ 64) : SeqAt.shaped d = true := by
  show (d.canLay0 && decide (d.depth ≤ 64)) = true
  rw [Bool.and_eq_true]
  exact ⟨h.1, decide_eq_true (Nat.le_trans h.2 hn)⟩
theorem tyx_t {K : PySem.W.Frag} {H : Hp} {a : Addr} {xs : List V} (h : SqT K H a xs) : TyX K H (.ref a) (.type "tuple") := by
  rcases h with (h | ⟨o, h⟩) | ⟨o, its, n, h, hc, _⟩
  · exact .base (.tup h)
  · exact .fTuple h
  · exact .kTuple h hc
theorem tyx_l {K : PySem.W.Frag} {H : Hp} {a : Addr} {xs : List V} (h : SqL K H a xs) : TyX K H (.ref a) (.type "list") := by
  rcases h with (h | ⟨o, h⟩) | ⟨o, its, n, h, hc, _⟩
  · exact .base (.lst h)
  · exact .base (.frz h)
  · exact .kList h hc
theorem same_both {G H : Hp} {t : Addr} {x : HO} (e : Same G H) : Same (upd G t x) (upd H t x) := fun b o h => by
  by_cases hb : b = t
  · subst hb; rw [upd_same] at h ⊢; exact h
  · rw [upd_ne hb] at h ⊢; exact e b o h
theorem set_self {α : Type} : ∀ {l : List α} {i : Nat} {x : α}, l[i]? = some x → l.set i x = l
  | [], i, x, h => by simp at h
  | a :: l, 0, x, h => by
    have e : a = x := Option.some.inj h
    subst e
    rfl
  | a :: l, i + 1, x, h => by
    show a :: l.set i x = a :: l
    rw [set_self (by simpa using h)]
theorem ixn {n j : Nat} {i : Int} (hi : i = (j : Int)) (hj : j < n) : ixN n i = some j := by
  unfold ixN
  rw [if_pos (by omega), if_pos (by omega)]
  congr 1
  omega
/-! shifts and masks in place -/
section
variable {X : Cx}
theorem ip_shr : PIp X .RShift (fun x y H Q => ∃ (i : Int) (k : Nat), x = .int i ∧ y = .int (k : Int) ∧ Q (.int (i / 2 ^ k)) H) := by
  intro pins s σ H x y v u Q I r1 r2 h
  obtain ⟨i, k, e1, e2, q⟩ := h
  subst e1; subst e2
  obtain ⟨t, rfl⟩ := r1
  obtain ⟨t', rfl⟩ := r2
  refine irshift_int (Int.natCast_nonneg k) ⟨.int _, H, I.tok _, ⟨_, rfl⟩, ?_⟩
  rw [Int.toNat_natCast, Int.fdiv_eq_ediv_of_nonneg _ (Int.le_of_lt (Int.pow_pos (by decide)))]
  exact q
theorem ip_or : PIp X .BitOr (fun x y H Q => ∃ (r a : Int) (k : Nat), x = .int r ∧ y = .int (a * 2 ^ k) ∧ (0 ≤ a ∧ 0 ≤ r ∧ r < 2 ^ k) ∧ Q (.int (r + a * 2 ^ k)) H) := by
  intro pins s σ H x y v u Q I r1 r2 h
  obtain ⟨r, a, k, e1, e2, ⟨h0, h1, h2⟩, q⟩ := h
  subst e1; subst e2
  obtain ⟨t, rfl⟩ := r1
  obtain ⟨t', rfl⟩ := r2
  refine ior_int ⟨.int _, H, I.tok _, ⟨_, rfl⟩, ?_⟩
  have e : Builtin.bitOr r (a * 2 ^ k) = r + a * 2 ^ k := by
    have hp : (0 : Int) ≤ a * 2 ^ k := Int.mul_nonneg h0 (Int.le_of_lt (Int.pow_pos (by decide)))
    rw [bitOr_nn h1 hp, Nat.or_comm, ← bitOr_nn hp h1, or_low h0 h1 h2, Int.add_comm]
  rw [e]
  exact q
end
theorem bits_small : ∀ n : Nat, n < 128 → Builtin.Int.intBits (n : Int) ≤ 8 := by decide +kernel
/-- isinstance(e, c) of the error that a suite holds, its class known by the reading -/
theorem call_isE1 {X : Cx} {a D : Addr} {oe : Obj} {cls : Value} {d : Option Addr} {pn : List (Addr × Obj)} (C : ExcC X.K D) (hz : Zc cls d oe) (hf : ∃ vs, oe.data = .fields vs) :
    CallR (X.suite a ((a, oe) :: pn)) (.builtin "isinstance") (fun xs H Q => cls = .ref D ∧ d = none ∧ rIsE X.K D a xs H Q) := fun pins s σ H xs us Q I r h => by
  obtain ⟨h1, h2, h⟩ := h
  subst h1
  subst h2
  exact call_isE C hz hf pins s σ H xs us Q I r h
/-! slices -/
theorem sIx_le {n d : Nat} {i : Nat} : HT.sIx n d (some (i : Int)) = min i n := HT.sIx_nat n d i
theorem cut0n (xs : List V) (j : Nat) : cutV xs none (some (j : Int)) = xs.take j := by
  unfold cutV
  rw [sIx_le, HT.sIx_none, List.drop_zero, Nat.sub_zero]
  exact (List.take_eq_take_min).symm
theorem cutnn (xs : List V) (i j : Nat) : cutV xs (some (i : Int)) (some (j : Int)) = (xs.drop i).take (j - i) := by
  unfold cutV
  rw [sIx_le, sIx_le]
  by_cases hi : i ≤ xs.length
  · rw [Nat.min_eq_left hi]
    by_cases hj : j ≤ xs.length
    · rw [Nat.min_eq_left hj]
    · rw [Nat.min_eq_right (by omega), List.take_of_length_le (by rw [List.length_drop]; omega), List.take_of_length_le (by rw [List.length_drop]; omega)]
  · have e : min i xs.length = xs.length := by omega
    rw [e, List.drop_of_length_le (Nat.le_refl _), List.drop_of_length_le (show xs.length ≤ i by omega), List.take_nil, List.take_nil]
theorem cut_ints (ns : List Int) {i j : Nat} {a b : Int} (ha : a = i) (hb : b = j) : cutV (ns.map V.int) (some a) (some b) = ((ns.drop i).take (j - i)).map V.int := by
  rw [ha, hb, cutnn, ← List.map_drop, ← List.map_take]
theorem rep_ints (ns : List Int) (k : Nat) : (List.replicate k (ns.map V.int)).flatten = (List.replicate k ns).flatten.map V.int := by
  rw [List.map_flatten, List.map_replicate]
/-- [e for x in a slice], e changes nothing -/
theorem lc_cut {K : PySem.W.Frag} {wi : TI} {te : TE} {s : Nat} {σ : L2.St} {H : Hp} {Q : VK} (xs : List V) (f : V → V)
    (hwi : ∀ R : It → Hp → Prop, (∀ p, H p = none → R (Itl K p) (upd H p (.lst xs))) → wi σ H R) (hlen : xs.length ≤ 90000)
    (hw : ∀ x, wipe ((wipe σ [s]).set s (some x)) [s] = wipe σ [s])
    (he : ∀ (i : Nat) (x : V) (G : Hp) (Q' : VK), xs[i]? = some x → Same H G → Q' (f x) G → te ((wipe σ [s]).set s (some x)) G Q')
    (k : ∀ D H', H D = none → Same H H' → H' D = some (.lst (xs.map f)) → Q (.ref D) H') : tLc wi (gName s) tYes te [s] σ H Q := by
  refine hwi _ fun p hp D hD => ?_
  have nD : D ≠ p := fun z => by rw [z, upd_same] at hD; cases hD
  have hD0 : H D = none := by rw [upd_ne nD] at hD; exact hD
  refine lc_list (K := K) (a := p) (xs := xs) (fun i H' => Same H H' ∧ H' p = some (.lst xs) ∧ H' D = some (.lst ((xs.take i).map f)))
    ⟨(same_upd hp).trans (same_upd hD), by rw [upd_ne nD.symm, upd_same], by rw [upd_same]; rfl⟩ (fun i H' _ h => sql h.2.1) (fun i x G hx hG => ?_) (fun G hG => ?_)
  · refine ⟨hw x, ?_⟩
    refine he i x G _ hx hG.1 ⟨_, hG.2.2, szl (by rw [List.length_map, List.length_take]; omega), same_put hG.1 hD0, by rw [upd_ne nD.symm]; exact hG.2.1, ?_⟩
    rw [upd_same, take_more hx, List.map_append]
    rfl
  · refine k D G hD0 hG.1 ?_
    rw [List.take_length] at hG
    exact hG.2.2
/-- lists of ints as data -/
theorem dpa_ints {K : PySem.W.Frag} {H : Hp} : ∀ ns : List Int, DpAll K H (ns.map V.int) (ns.map PyData.int)
  | [] => .nil
  | n :: ns => .cons (.int n) (dpa_ints ns)
theorem dp_ints {K : PySem.W.Frag} {H : Hp} {a : Addr} {ns : List Int} (h : SqL K H a (ns.map V.int)) : Dp K H (.ref a) (.list (ns.map PyData.int)) := .lst h (dpa_ints ns)
theorem flat_ints (ns : List Int) : Flat 1 (.list (ns.map PyData.int)) := flat_list (n := 0) fun d hd => by
  obtain ⟨i, _, rfl⟩ := List.mem_map.mp hd
  exact flat_int _ _
theorem flat_tints (ns : List Int) : Flat 1 (.tuple (ns.map PyData.int)) := flat_tup (n := 0) fun d hd => by
  obtain ⟨i, _, rfl⟩ := List.mem_map.mp hd
  exact flat_int _ _
theorem eqvAll_ints : ∀ xs ys : List Int, PyData.eqvAll (xs.map .int) (ys.map .int) = decide (xs = ys)
  | [], [] => rfl
  | [], _ :: _ => rfl
  | _ :: _, [] => rfl
  | x :: xs, y :: ys => by
    show ((x == y) && PyData.eqvAll (xs.map .int) (ys.map .int)) = _
    rw [eqvAll_ints xs ys, Bool.eq_iff_iff]
    simp
theorem eqv_ints (xs ys : List Int) : PyData.eqv (.list (xs.map .int)) (.list (ys.map .int)) = decide (xs = ys) := eqvAll_ints xs ys
theorem eqv_tints (xs ys : List Int) : PyData.eqv (.tuple (xs.map .int)) (.tuple (ys.map .int)) = decide (xs = ys) := eqvAll_ints xs ys
/-- a def with defaults that lets nothing out -/
theorem okD {P : Program} {w : World} {K : PySem.W.Frag} {mg : Str → Option Value} {base : Heap} {x qual : Str} {params : Arguments} {body : List Stmt} {scope : Scope} {dvs : List V} {kws : List (Str × V)} {f : Addr} {fd : FuncData} {N ps : List Str} {k : Nat} {sp : Sp}
    (F : FunD K x qual params body scope dvs kws f fd) (S : FnScope N ps scope) (len : ∀ vs H Q E, sp vs H Q E → vs.length = ps.length)
    (hb : ∀ (cdv : Value) (A : Around) (outer : List Env) (s : Shared) (H : Hp) (vs : List V) (Q : VK) (E : XK), Room k (A.deeper (envOfC qual scope s.heap.objs.size f cdv)) → sp vs H Q E →
      ∃ t, PSs (cxOf CX0 P w K mg base N qual scope f cdv A outer s H E).nox body t ∧ t { nx := fun _ H' => Q .non H', rt := Q } (start N vs) H) : FnOk P w K mg base CX0 (k + 1) f fd ps sp :=
  F.ok S len fun cdv A outer s H vs Q E hr h => by
    obtain ⟨t, h1, q⟩ := hb cdv A outer s H vs Q E hr h
    exact ⟨t, h1.nox, q⟩
/-! what an expression gives, whatever stands besides -/
def EI (te : TE) (σ : L2.St) (H : Hp) (v : V) : Prop := ∀ G, Same H G → ∀ Q : VK, Q v G → te σ G Q
def EA (ta : TA) (σ : L2.St) (H : Hp) (vs : List V) : Prop := ∀ G, Same H G → ∀ Q : List V → Hp → Prop, Q vs G → ta σ G Q
/-- a list, new or old -/
def EL (te : TE) (σ : L2.St) (H : Hp) (xs : List V) : Prop := ∀ G, Same H G → ∀ Q : VK, (∀ p G', Same G G' → G' p = some (.lst xs) → Q (.ref p) G') → te σ G Q
section
variable {K : PySem.W.Frag} {σ : L2.St} {H : Hp} {ta tb te : TE} {x y z v : V} {xs ys : List V}
theorem ei_var {i : Nat} (h : σ[i]? = some (some v)) : EI (tVar i) σ H v := fun _ _ _ q => ⟨v, h, q⟩
theorem ei_c : EI (tC v) σ H v := fun _ _ _ q => q
theorem ei_op {r : R2} (ha : EI ta σ H x) (hb : EI tb σ H y) (hr : ∀ G, Same H G → ∀ Q : VK, Q z G → r x y G Q) : EI (tOp r ta tb) σ H z := fun G s Q q => ha G s _ (hb G s _ (hr G s Q q))
theorem ei_i0 {g : Int → Int → V} {i j : Int} (ha : EI ta σ H (.int i)) (hb : EI tb σ H (.int j)) : EI (tOp (rI0 g) ta tb) σ H (g i j) := ei_op ha hb fun _ _ _ q => ⟨i, j, rfl, rfl, q⟩
theorem ei_ic {C : Int → Int → Prop} {g : Int → Int → V} {i j : Int} (ha : EI ta σ H (.int i)) (hb : EI tb σ H (.int j)) (hc : C i j) : EI (tOp (rI C g) ta tb) σ H (g i j) := ei_op ha hb fun _ _ _ q => ⟨i, j, rfl, rfl, hc, q⟩
theorem ea_nil : EA tNil σ H [] := fun _ _ _ q => q
theorem ea_cons {tr : TA} {vs : List V} (h : EI ta σ H x) (g : EA tr σ H vs) : EA (tCons ta tr) σ H (x :: vs) := fun G s _ q => h G s _ (g G s _ q)
theorem ei_cb {r : List V → Hp → VK → Prop} {tr : TA} {vs : List V} (ha : EA tr σ H vs) (hr : ∀ G, Same H G → ∀ Q : VK, Q z G → r vs G Q) : EI (tCB r tr) σ H z := fun G s Q q => ha G s _ (hr G s Q q)
/-- len of a list, list(..) of a list or a tuple, as they are read -/
def rLen (K : PySem.W.Frag) : List V → Hp → VK → Prop := fun xs H Q => ∃ p ys, xs = [.ref p] ∧ (SqL K H p ys ∨ SqT K H p ys) ∧ Q (.int ys.length) H
def rLst (K : PySem.W.Frag) : List V → Hp → VK → Prop := fun xs H Q => ∃ p ys, xs = [.ref p] ∧ (SqL K H p ys ∨ SqT K H p ys) ∧ ∀ l, H l = none → Q (.ref l) (upd H l (.lst ys))
def rTup (K : PySem.W.Frag) : List V → Hp → VK → Prop := fun xs H Q => ∃ p ys, xs = [.ref p] ∧ ((SqL K H p ys ∧ ∀ l, H l = none → Q (.ref l) (upd H l (.tup ys))) ∨ (SqT K H p ys ∧ Q (.ref p) H))
theorem callK_tuple {X : Cx} (h : X.K = K) : CallR X (.type "tuple") (rTup K) := by subst h; exact call_tuple_of
theorem callK_list {X : Cx} (h : X.K = K) : CallR X (.type "list") (rLst K) := by subst h; exact call_list_of
theorem opK_catA {X : Cx} (h : X.K = K) : OpR X (binaryOp .Add) (rCatA K) := by subst h; exact op_catA
theorem ixK_list {X : Cx} (h : X.K = K) : IxR X (rIxL K) := by subst h; exact ix_list
theorem ixK_tup {X : Cx} (h : X.K = K) : IxR X (rIxT K) := by subst h; exact ix_tup
theorem pe_fldK {X : Cx} {e : Expr} {f : Str} {pos : Pos} {ta : TE} (h : X.K = K) (he : PE X e ta) (hb : attributeBase e f X.env (eval e X.env) = eval e X.env) : PE X (.Attribute e f pos) (tFld K ta f) := by subst h; exact pe_fld he hb
theorem callK_len {X : Cx} (h : X.K = K) : CallR X (.builtin "len") (rLen K) := by subst h; exact call_len_seq
theorem ei_lenL {i : Nat} {p : Addr} (h : σ[i]? = some (some (.ref p))) (e : SqL K H p xs) : EI (tCB (rLen K) (tCons (tVar i) tNil)) σ H (.int (xs.length : Int)) := ei_cb (ea_cons (ei_var h) ea_nil) fun _ s _ q => ⟨p, xs, rfl, .inl (s.seq e), q⟩
theorem ei_lenT {i : Nat} {p : Addr} (h : σ[i]? = some (some (.ref p))) (e : SqT K H p xs) : EI (tCB (rLen K) (tCons (tVar i) tNil)) σ H (.int (xs.length : Int)) := ei_cb (ea_cons (ei_var h) ea_nil) fun _ s _ q => ⟨p, xs, rfl, .inr (sqt_same s e), q⟩
theorem ei_fld {i : Nat} {p C dx : Addr} {fs : List (Str × V)} {f : Str} (h : σ[i]? = some (some (.ref p))) (hp : H p = some (.ins C dx fs)) (c : Cls K C) (n : NoAttr K C f) (l : fs.lookup f = some v) : EI (tFld K (tVar i) f) σ H v := fun _ s _ q => ⟨.ref p, h, p, C, dx, fs, v, rfl, s _ _ hp, c, n, l, q⟩
theorem ei_din {td : TE} {d : Addr} {kvs : List (Key × V)} {k : Key} (hy : EI te σ H (kV k)) (hd : EI td σ H (.ref d)) (e : H d = some (.dK kvs)) : EI (tDIn te td) σ H (.bl (valV kvs k).isSome) := fun G s _ q => hy G s _ (hd G s _ ⟨d, _, rfl, DGet.k (s _ _ e), q⟩)
theorem ei_dnotin {td : TE} {d : Addr} {kvs : List (Key × V)} {k : Key} (hy : EI te σ H (kV k)) (hd : EI td σ H (.ref d)) (e : H d = some (.dK kvs)) : EI (tDNotIn te td) σ H (.bl (!(valV kvs k).isSome)) := fun G s _ q => hy G s _ (hd G s _ ⟨d, _, rfl, DGet.k (s _ _ e), q⟩)
theorem ei_dget {td : TE} {d : Addr} {kvs : List (Key × V)} {k : Key} (hy : EI te σ H (kV k)) (hd : EI td σ H (.ref d)) (e : H d = some (.dK kvs)) (hv : valV kvs k = some v) : EI (tDGet td te) σ H v := fun G s _ q => hd G s _ (hy G s _ ⟨d, v, rfl, by rw [← hv]; exact DGet.k (s _ _ e), q⟩)
theorem ei_ixL {p : Addr} {j : Int} (ha : EI ta σ H (.ref p)) (hi : EI tb σ H (.int j)) (e : SqL K H p xs) (h : atI xs j = some v) : EI (tOp (rIxL K) ta tb) σ H v := ei_op ha hi fun _ s _ q => ⟨p, xs, j, v, rfl, rfl, s.seq e, h, q⟩
theorem ei_ixT {p : Addr} {j : Int} (ha : EI ta σ H (.ref p)) (hi : EI tb σ H (.int j)) (e : SqT K H p xs) (h : atI xs j = some v) : EI (tOp (rIxT K) ta tb) σ H v := ei_op ha hi fun _ s _ q => ⟨p, xs, j, v, rfl, rfl, sqt_same s e, h, q⟩
theorem ei_eq (ha : EI ta σ H x) (hb : EI tb σ H y) (h : scal x y = true) : EI (tOp rEq ta tb) σ H (.bl (decide (x = y))) := ei_op ha hb fun _ _ _ q => ⟨h, q⟩
theorem ei_ne (ha : EI ta σ H x) (hb : EI tb σ H y) (h : scal x y = true) : EI (tOp rNe ta tb) σ H (.bl (!decide (x = y))) := ei_op ha hb fun _ _ _ q => ⟨h, q⟩
/-- a test by its value -/
theorem tt_use {b : Bool} {Q : Bool → Hp → Prop} (h : EI te σ H (.bl b)) (k : Q b H) : tTest te σ H Q := h H (Same.refl _) _ ⟨b, rfl, k⟩
theorem tb_use {b : Bool} {Q : Bool → Hp → Prop} (h : EI te σ H (.bl b)) (k : Q b H) : tB te σ H Q := h H (Same.refl _) _ ⟨b, rfl, k⟩
theorem el_var {i : Nat} {p : Addr} (h : σ[i]? = some (some (.ref p))) (e : H p = some (.lst xs)) : EL (tVar i) σ H xs := fun G s _ q => ⟨.ref p, h, q p G (Same.refl _) (s _ _ e)⟩
/-- a new list -/
def EN (te : TE) (σ : L2.St) (H : Hp) (xs : List V) : Prop := ∀ G, Same H G → ∀ Q : VK, (∀ p G', G p = none → Same G G' → G' p = some (.lst xs) → Q (.ref p) G') → te σ G Q
theorem EN.el (h : EN te σ H xs) : EL te σ H xs := fun G s Q q => h G s Q fun p G' _ => q p G'
theorem en_lst {tr : TA} {vs : List V} (ha : EA tr σ H vs) (hl : vs.length ≤ 90000) : EN (tLst tr) σ H vs := fun G s _ q => ha G s _ ⟨sz (by omega), fun p hp => q p _ hp (same_upd hp) upd_same⟩
theorem en_cat (ha : EL ta σ H xs) (hb : EL tb σ H ys) (hl : xs.length + ys.length ≤ 90000) : EN (tOp rCat ta tb) σ H (xs ++ ys) := fun G s _ q =>
  ha G s _ fun p G1 s1 e1 => hb G1 (s.trans s1) _ fun p2 G2 s2 e2 => ⟨p, p2, xs, ys, rfl, rfl, s2 _ _ e1, e2, sz (by omega), fun p3 h3 => q p3 _ ((s1.trans s2).free h3) ((s1.trans s2).trans (same_upd h3)) upd_same⟩
theorem en_rep {k : Int} (ha : EL ta σ H xs) (hb : EI tb σ H (.int k)) (h1 : -1000000 ≤ k) (h2 : k ≤ 1000000) (hl : xs.length * k.toNat ≤ 90000) : EN (tOp rRep ta tb) σ H (List.replicate k.toNat xs).flatten := fun G s _ q =>
  ha G s _ fun p G1 s1 e1 => hb G1 (s.trans s1) _ ⟨p, k, xs, rfl, rfl, e1, by omega, by omega, sz (by omega), fun p3 h3 => q p3 _ (s1.free h3) (s1.trans (same_upd h3)) upd_same⟩
theorem el_lst {tr : TA} {vs : List V} (ha : EA tr σ H vs) (hl : vs.length ≤ 90000) : EL (tLst tr) σ H vs := (en_lst ha hl).el
theorem el_cat (ha : EL ta σ H xs) (hb : EL tb σ H ys) (hl : xs.length + ys.length ≤ 90000) : EL (tOp rCat ta tb) σ H (xs ++ ys) := (en_cat ha hb hl).el
theorem el_rep {k : Int} (ha : EL ta σ H xs) (hb : EI tb σ H (.int k)) (h1 : -1000000 ≤ k) (h2 : k ≤ 1000000) (hl : xs.length * k.toNat ≤ 90000) : EL (tOp rRep ta tb) σ H (List.replicate k.toNat xs).flatten := (en_rep ha hb h1 h2 hl).el
theorem el_cb {r : List V → Hp → VK → Prop} {tr : TA} {vs : List V} (ha : EA tr σ H vs) (hr : ∀ G, Same H G → ∀ Q : VK, (∀ p G', Same G G' → G' p = some (.lst xs) → Q (.ref p) G') → r vs G Q) : EL (tCB r tr) σ H xs := fun G s Q q => ha G s _ (hr G s Q q)
theorem el_call {sp : Sp} {dvs : List V} {E : XK} {tr : TA} {vs : List V} (ha : EA tr σ H vs) (hr : ∀ G, Same H G → ∀ Q : VK, (∀ p G', Same G G' → G' p = some (.lst xs) → Q (.ref p) G') → sp (vs ++ dvs) G Q E) : EL (tCall sp dvs E tr) σ H xs := fun G s Q q => ha G s _ (hr G s Q q)
theorem el_listL {i : Nat} {p : Addr} (h : σ[i]? = some (some (.ref p))) (e : SqL K H p xs) : EL (tCB (rLst K) (tCons (tVar i) tNil)) σ H xs := el_cb (ea_cons (ei_var h) ea_nil) fun _ s _ q => ⟨p, xs, rfl, .inl (s.seq e), fun l hl => q l _ (same_upd hl) upd_same⟩
theorem el_listT {i : Nat} {p : Addr} (h : σ[i]? = some (some (.ref p))) (e : SqT K H p xs) : EL (tCB (rLst K) (tCons (tVar i) tNil)) σ H xs := el_cb (ea_cons (ei_var h) ea_nil) fun _ s _ q => ⟨p, xs, rfl, .inr (sqt_same s e), fun l hl => q l _ (same_upd hl) upd_same⟩
/-- x = an expression that gives a list -/
theorem EL.use {Q : VK} (h : EL te σ H xs) (k : ∀ p H', Same H H' → H' p = some (.lst xs) → Q (.ref p) H') : te σ H Q := h H (Same.refl _) Q k
theorem EN.use {Q : VK} (h : EN te σ H xs) (k : ∀ p H', H p = none → Same H H' → H' p = some (.lst xs) → Q (.ref p) H') : te σ H Q := h H (Same.refl _) Q k
theorem EI.use {Q : VK} (h : EI te σ H v) (k : Q v H) : te σ H Q := h H (Same.refl _) Q k
end
/-- defaults: what is bound where keywords give the rest -/
theorem kb_one {K : PySem.W.Frag} {x qual : Str} {params : Arguments} {body : List Stmt} {scope : Scope} {dvs : List V} {f : Addr} {fd : FuncData} {ps : List Str} (F : FunD K x qual params body scope dvs [] f fd) (n : Nat) (ks : List Str) (hd : dvs ≠ [])
    (h : ∀ (T : Addr) (kV doc pm : Value) (an : Option Addr) (cdv ct : Value) (us ws its : List Value), us.length = n → ws.length = ks.length → its.length = dvs.length →
      ∃ k, bindArgs (PySem.W.fnOf x qual params body scope (.ref T) kV doc pm an cdv ct) ⟨us, ks.zip ws⟩ = seqItems? (.ref T) >>= k ∧ k (some its.toArray) = pure (ps.zip (us ++ ws))) :
    KBn K fd ps n ks (fun us ws => us ++ ws) (fun vs zs => vs ++ zs) := by
  obtain ⟨oc, od, dV, kV, doc, pm, an, cdv, ct, osl, rfl, lk, hcd, hD, hK⟩ := F.ex
  rcases hD with ⟨e, _⟩ | ⟨_, T, o, its, m, rfl, lT, oT, rT⟩
  · exact absurd e hd
  · refine ⟨fun s us ws X h1 h2 => BindsTo.of_looks fun M => ?_, fun r1 r2 => r1.append r2⟩
    obtain ⟨k, e1, e2⟩ := h T kV doc pm an cdv ct us ws its h1 h2 rT.length.symm
    rw [e1]
    exact looks_items X lT oT (.of_pure e2)
theorem andV_use {ta tb : TE} {σ : L2.St} {H : Hp} {Q : VK} {x y : Bool} (h1 : EI ta σ H (.bl x)) (h2 : x = true → ∀ Q' : VK, (∀ H', Same H H' → Q' (.bl y) H') → tb σ H Q') (k : ∀ H', Same H H' → Q (.bl (x && y)) H') : tAndV ta tb σ H Q := by
  refine h1 H (Same.refl _) _ ⟨x, rfl, ?_⟩
  cases x with
  | true => exact (if_pos rfl).mpr (h2 rfl _ k)
  | false => exact (if_neg Bool.false_ne_true).mpr (k H (Same.refl _))
/-- what is locked and let go stands as it stood -/
theorem unlock {H H' : Hp} {d : Addr} {od : Obj} {u : HO} (e : H d = some u) (s : Same (upd H d (.frz od u)) H') : Same H (upd H' d u) := fun b o h => by
  by_cases hb : b = d
  · subst hb
    rw [upd_same, ← e]
    exact h
  · rw [upd_ne hb]
    exact s b o (by rw [upd_ne hb]; exact h)
theorem take_filter {α : Type} {l : List α} {i : Nat} {x : α} (f : α → Bool) (h : l[i]? = some x) : (l.take (i + 1)).filter f = (l.take i).filter f ++ if f x then [x] else [] := by
  rw [take_more h, List.filter_append]
  cases e : f x <;> simp [e]
/-- [e for k in d if t] over the keys of a dict, t and e change nothing -/
theorem lc_keys {td te : TE} {tt : TT} {s : Nat} {σ : L2.St} {H : Hp} {Q : VK} (d : Addr) (kvs : List (Key × V)) (f : Key → Bool) (g : Key → V) (e : H d = some (.dK kvs)) (hlen : kvs.length ≤ 90000)
    (htd : ∀ od, EI td σ (upd H d (.frz od (.dK kvs))) (.ref d))
    (hw : ∀ x, wipe ((wipe σ [s]).set s (some x)) [s] = wipe σ [s])
    (ht : ∀ (od : Obj) (i : Nat) (k : Key) (v : V) (G : Hp) (Q' : Bool → Hp → Prop), kvs[i]? = some (k, v) → Same (upd H d (.frz od (.dK kvs))) G → Q' (f k) G → tt ((wipe σ [s]).set s (some (kV k))) G Q')
    (he : ∀ (od : Obj) (i : Nat) (k : Key) (v : V) (G : Hp) (Q' : VK), kvs[i]? = some (k, v) → Same (upd H d (.frz od (.dK kvs))) G → Q' (g k) G → te ((wipe σ [s]).set s (some (kV k))) G Q')
    (k : ∀ D H', H D = none → Same H H' → H' D = some (.lst ((kvs.filter fun kv => f kv.1).map fun kv => g kv.1)) → Q (.ref D) H') : tLockE (tLc (iKeys td) (gName s) tt te [s]) σ H Q := by
  refine ⟨d, _, e, trivial, fun od => htd od _ (Same.refl _) _ ⟨d, od, rfl, .inl ⟨kvs, upd_same, fun D hD => ?_⟩⟩⟩
  have nD : D ≠ d := fun z => by rw [z, upd_same] at hD; cases hD
  have hD0 : H D = none := by rw [upd_ne nD] at hD; exact hD
  refine lc_it walk_keys (fun i G => Same (upd H d (.frz od (.dK kvs))) G ∧ G D = some (.lst (((kvs.take i).filter fun kv => f kv.1).map fun kv => g kv.1)))
    ⟨same_upd hD, upd_same⟩ (fun i G _ h => h.1 _ _ upd_same) (fun i x G G' hi hG hy => ?_) (fun G hG => ?_)
  · obtain ⟨rfl, key, v, hkv, rfl⟩ := hy
    have hfl : ((kvs.take i).filter fun kv => f kv.1).length ≤ 90000 := Nat.le_trans (List.length_filter_le _ _) (by rw [List.length_take]; omega)
    refine ⟨hw _, ht od i key v _ _ hkv hG.1 ?_⟩
    have hts := take_filter (fun kv : Key × V => f kv.1) hkv
    cases hf : f key with
    | true =>
      refine (if_pos rfl).mpr (he od i key v _ _ hkv hG.1 ⟨_, hG.2, szl (by rw [List.length_map]; omega), same_put hG.1 hD, ?_⟩)
      rw [upd_same, hts, List.map_append]
      simp only [hf, if_true]
      rfl
    | false =>
      refine (if_neg Bool.false_ne_true).mpr ⟨hG.1, ?_⟩
      rw [hts]
      simp only [hf, Bool.false_eq_true, if_false, List.append_nil]
      exact hG.2
  · rw [List.take_length] at hG
    refine ⟨hG.1 _ _ upd_same, k D _ hD0 (unlock e hG.1) ?_⟩
    rw [upd_ne nD]
    exact hG.2
theorem put_fresh {kvs : List (Key × V)} {k : Key} {v : V} (h : ∀ kv ∈ kvs, kv.1 ≠ k) : putK kvs k v = kvs ++ [(k, v)] := by
  unfold putK
  rw [if_neg]
  intro z
  obtain ⟨kv, hm, hk⟩ := List.any_eq_true.mp z
  exact h kv hm (of_decide_eq_true hk)
theorem nd_ne {α β : Type} {l : List (α × β)} {i : Nat} {x : α × β} (nd : (l.map (·.1)).Nodup) (h : l[i]? = some x) : ∀ y ∈ l.take i, y.1 ≠ x.1 := fun y hy z => by
  obtain ⟨j, hj, rfl⟩ := List.getElem_of_mem hy
  rw [List.length_take] at hj
  rw [List.getElem_take] at z
  obtain ⟨hi, rfl⟩ := List.getElem?_eq_some_iff.mp h
  have e1 : (l.map (·.1))[j]? = some l[i].1 := by rw [List.getElem?_map, List.getElem?_eq_getElem (by omega), ← z]; rfl
  have e2 : (l.map (·.1))[i]? = some l[i].1 := by rw [List.getElem?_map, List.getElem?_eq_getElem hi]; rfl
  have := nd_ix nd e1 e2
  omega
/-- {k: e for k in d if t} over the keys of a dict -/
theorem dc_keys {td tv : TE} {tt : TT} {s : Nat} {σ : L2.St} {H : Hp} {Q : VK} (d : Addr) (kvs : List (Key × V)) (f : Key → Bool) (g : Key × V → V) (e : H d = some (.dK kvs)) (hlen : kvs.length ≤ 90000) (nd : (kvs.map (·.1)).Nodup)
    (htd : ∀ od, EI td σ (upd H d (.frz od (.dK kvs))) (.ref d))
    (hw : ∀ x, wipe ((wipe σ [s]).set s (some x)) [s] = wipe σ [s])
    (ht : ∀ (od : Obj) (i : Nat) (k : Key) (v : V) (G : Hp) (Q' : Bool → Hp → Prop), kvs[i]? = some (k, v) → Same (upd H d (.frz od (.dK kvs))) G → Q' (f k) G → tt ((wipe σ [s]).set s (some (kV k))) G Q')
    (he : ∀ (od : Obj) (i : Nat) (k : Key) (v : V) (G : Hp) (Q' : VK), kvs[i]? = some (k, v) → f k = true → Same (upd H d (.frz od (.dK kvs))) G → Q' (g (k, v)) G → tv ((wipe σ [s]).set s (some (kV k))) G Q')
    (hn : ∀ i, (wipe σ [s]).length = i → s < i)
    (k : ∀ D H', H D = none → Same H H' → H' D = some (.dK ((kvs.filter fun kv => f kv.1).map fun kv => (kv.1, g kv))) → Q (.ref D) H') : tLockE (tDc (iKeys td) (gName s) tt (tVar s) tv [s]) σ H Q := by
  have hs : s < (wipe σ [s]).length := hn _ rfl
  refine ⟨d, _, e, trivial, fun od => htd od _ (Same.refl _) _ ⟨d, od, rfl, .inl ⟨kvs, upd_same, fun D hD => ?_⟩⟩⟩
  have nD : D ≠ d := fun z => by rw [z, upd_same] at hD; cases hD
  have hD0 : H D = none := by rw [upd_ne nD] at hD; exact hD
  let Pv : Nat → Hp → Prop := fun i G => Same (upd H d (.frz od (.dK kvs))) G ∧ G D = some (.dK (((kvs.take i).filter fun kv => f kv.1).map fun kv => (kv.1, g kv)))
  have step : ∀ i x G G', i < kvs.length → Pv i G → (G' = G ∧ ∃ k v, kvs[i]? = some (k, v) ∧ x = kV k) → gName s x (wipe σ [s]) G' fun σ2 H2 => wipe σ2 [s] = wipe σ [s] ∧ tt σ2 H2 fun b H3 =>
      if b = true then tVar s σ2 H3 fun y H4 => tv σ2 H4 fun z H5 => ∃ kvs' k', y = kV k' ∧ H5 D = some (.dK kvs') ∧ kvs'.length < sizeLine ∧ Pv (i + 1) (upd H5 D (.dK (putK kvs' k' z))) else Pv (i + 1) H3 := fun i x G G' hi hG hy => by
    obtain ⟨rfl, key, v, hkv, rfl⟩ := hy
    have hfl : ((kvs.take i).filter fun kv => f kv.1).length ≤ 90000 := Nat.le_trans (List.length_filter_le _ _) (by rw [List.length_take]; omega)
    refine ⟨hw _, ht od i key v _ _ hkv hG.1 ?_⟩
    have hts := take_filter (fun kv : Key × V => f kv.1) hkv
    cases hf : f key with
    | true =>
      refine (if_pos rfl).mpr ⟨kV key, by rw [List.getElem?_set_self hs], he od i key v _ _ hkv hf hG.1 ⟨_, key, rfl, hG.2, szl (by rw [List.length_map]; omega), same_put hG.1 hD, ?_⟩⟩
      rw [upd_same, hts, List.map_append, put_fresh]
      · simp only [hf, if_true]
        rfl
      · intro kv hm
        obtain ⟨y, hy, rfl⟩ := List.mem_map.mp hm
        exact nd_ne nd hkv y (List.mem_filter.mp hy).1
    | false =>
      refine (if_neg Bool.false_ne_true).mpr ⟨hG.1, ?_⟩
      rw [hts]
      simp only [hf, Bool.false_eq_true, if_false, List.append_nil]
      exact hG.2
  refine ⟨fun i m G => m = kvs.length - i ∧ i ≤ kvs.length ∧ Pv i G, ⟨kvs.length, by simp, Nat.zero_le _, same_upd hD, upd_same⟩, ?_⟩
  rintro i m G ⟨rfl, hi, hP⟩
  by_cases hlt : i < kvs.length
  · exact .inr ⟨⟨hP.1 _ _ upd_same, hlt⟩, Pv (i + 1), fun G' p' => ⟨kvs.length - (i + 1), by omega, rfl, hlt, p'⟩, fun x G' y => step i x G G' hlt hP y⟩
  · have ei : i = kvs.length := by omega
    subst ei
    obtain ⟨h1, h2⟩ := hP
    rw [List.take_length] at h2
    refine .inl ⟨⟨h1 _ _ upd_same, Nat.le_refl _⟩, h1 _ _ upd_same, k D _ hD0 (unlock e h1) ?_⟩
    rw [upd_ne nD]
    exact h2
/-! the same within a comprehension -/
section
variable {K : PySem.W.Frag} {X : Cx} {pos : Pos}
theorem pgK_tup {es : List Expr} {k : Nat} {t : TGs} {n : Nat} (hK : X.K = K) (hc : X.calm = true) (h : PGs X es t)
    (hn : (assignEach es X.env).length = n := by rfl) (hst : (assignEach es X.env).findIdx? (·.1) = none := by rfl) : PG X (.Tuple es k pos) (gTup K n t) := by subst hK; exact pg_tup hc h hn hst
theorem opK_in (h : X.K = K) : OpR X (compareOp .In) (rIn K false) := by subst h; exact op_in_seq
theorem opK_notIn (h : X.K = K) : OpR X (compareOp .NotIn) (rIn K true) := by subst h; exact op_notIn_seq
theorem opK_eqD (h : X.K = K) (hu : X.A.units + 64 < cLine) : OpR X (compareOp .Eq) (rEqD K) := by subst h; exact op_eqD hu
theorem opK_neD (h : X.K = K) (hu : X.A.units + 64 < cLine) : OpR X (compareOp .NotEq) (rNeD K) := by subst h; exact op_neD hu
theorem callK_isi (h : X.K = K) : CallR X (.builtin "isinstance") (rIsi K) := by subst h; exact call_isi
theorem slK_tup (h : X.K = K) : SlR X (rSlT K) := by subst h; exact sl_tup
end
end My
local macro_rules | `(tactic| walk_at "go") => `(tactic| try dsimp only [L2.gName, L2.tSeq, L2.tAsg, L2.tNext, L2.tDrop])
namespace My
open PySem PySem.Spec PyProof.Rows L2
def topS (i : Nat) : Stmt := PySem.Challenge.pw_majordomo_k76_runs_and_restarts.main.body.getD i (.Pass ⟨0, 0, 0, 0⟩)
abbrev s_Restarts___init__ : Stmt := (inClass (topS 4) 0)
theorem sc_Restarts___init__ : FnScope ["self"] ["self"] (defScope s_Restarts___init__) := ⟨rfl, rfl, rfl, by decide +kernel, rfl, by decide +kernel, by decide +kernel⟩
abbrev s_Restarts_begun : Stmt := (inClass (topS 4) 1)
theorem sc_Restarts_begun : FnScope ["self", "slot", "now"] ["self", "slot", "now"] (defScope s_Restarts_begun) := ⟨rfl, rfl, rfl, by decide +kernel, rfl, by decide +kernel, by decide +kernel⟩
abbrev s_Restarts_failed : Stmt := (inClass (topS 4) 2)
theorem sc_Restarts_failed : FnScope ["self", "slot", "now"] ["self", "slot", "now"] (defScope s_Restarts_failed) := ⟨rfl, rfl, rfl, by decide +kernel, rfl, by decide +kernel, by decide +kernel⟩
abbrev s_Restarts__next_wait : Stmt := (inClass (topS 4) 3)
theorem sc_Restarts__next_wait : FnScope ["self", "slot", "now"] ["self", "slot", "now"] (defScope s_Restarts__next_wait) := ⟨rfl, rfl, rfl, by decide +kernel, rfl, by decide +kernel, by decide +kernel⟩
abbrev s_Restarts_is_due : Stmt := (inClass (topS 4) 4)
theorem sc_Restarts_is_due : FnScope ["self", "slot", "now"] ["self", "slot", "now"] (defScope s_Restarts_is_due) := ⟨rfl, rfl, rfl, by decide +kernel, rfl, by decide +kernel, by decide +kernel⟩
abbrev s_Restarts_forget : Stmt := (inClass (topS 4) 5)
theorem sc_Restarts_forget : FnScope ["self", "slot"] ["self", "slot"] (defScope s_Restarts_forget) := ⟨rfl, rfl, rfl, by decide +kernel, rfl, by decide +kernel, by decide +kernel⟩
abbrev s_Runs___init__ : Stmt := (inClass (topS 6) 0)
theorem sc_Runs___init__ : FnScope ["self"] ["self"] (defScope s_Runs___init__) := ⟨rfl, rfl, rfl, by decide +kernel, rfl, by decide +kernel, by decide +kernel⟩
abbrev s_Runs_begin : Stmt := (inClass (topS 6) 1)
theorem sc_Runs_begin : FnScope ["self", "slot", "born"] ["self", "slot", "born"] (defScope s_Runs_begin) := ⟨rfl, rfl, rfl, by decide +kernel, rfl, by decide +kernel, by decide +kernel⟩
abbrev s_Runs_end : Stmt := (inClass (topS 6) 2)
theorem sc_Runs_end : FnScope ["self", "slot"] ["self", "slot"] (defScope s_Runs_end) := ⟨rfl, rfl, rfl, by decide +kernel, rfl, by decide +kernel, by decide +kernel⟩
abbrev s_Runs_end_all : Stmt := (inClass (topS 6) 3)
theorem sc_Runs_end_all : FnScope ["self"] ["self"] (defScope s_Runs_end_all) := ⟨rfl, rfl, rfl, by decide +kernel, rfl, by decide +kernel, by decide +kernel⟩
abbrev s_Runs_born_of : Stmt := (inClass (topS 6) 4)
theorem sc_Runs_born_of : FnScope ["self", "slot"] ["self", "slot"] (defScope s_Runs_born_of) := ⟨rfl, rfl, rfl, by decide +kernel, rfl, by decide +kernel, by decide +kernel⟩
abbrev s_Runs_slots : Stmt := (inClass (topS 6) 5)
theorem sc_Runs_slots : FnScope ["self"] ["self"] (defScope s_Runs_slots) := ⟨rfl, rfl, rfl, by decide +kernel, rfl, by decide +kernel, by decide +kernel⟩
abbrev s__law_number : Stmt := (topS 8)
theorem sc__law_number : FnScope ["script", "k", "cell"] ["script", "k"] (defScope s__law_number) := ⟨rfl, rfl, rfl, by decide +kernel, rfl, by decide +kernel, by decide +kernel⟩
abbrev s__law_digits : Stmt := (topS 9)
theorem sc__law_digits : FnScope ["script", "k", "sizes", "number", "digits", "size"] ["script", "k", "sizes"] (defScope s__law_digits) := ⟨rfl, rfl, rfl, by decide +kernel, rfl, by decide +kernel, by decide +kernel⟩
abbrev s__law_runs_deed : Stmt := (topS 10)
theorem sc__law_runs_deed : FnScope ["runs", "rows", "digits", "names", "slot", "row"] ["runs", "rows", "digits"] (defScope s__law_runs_deed) := ⟨rfl, rfl, rfl, by decide +kernel, rfl, by decide +kernel, by decide +kernel⟩
abbrev s__law_runs_agree : Stmt := (topS 11)
theorem sc__law_runs_agree : FnScope ["runs", "rows", "told", "slot", "due", "row"] ["runs", "rows"] (defScope s__law_runs_agree) := ⟨rfl, rfl, rfl, by decide +kernel, rfl, by decide +kernel, by decide +kernel⟩
abbrev s__law_failed : Stmt := (topS 12)
theorem sc__law_failed : FnScope ["row", "slot", "now", "wait"] ["row", "slot", "now"] (defScope s__law_failed) := ⟨rfl, rfl, rfl, by decide +kernel, rfl, by decide +kernel, by decide +kernel⟩
abbrev s__law_waits_deed : Stmt := (topS 13)
theorem sc__law_waits_deed : FnScope ["restarts", "rows", "digits", "now", "names", "slot", "mine", "old", "others", "row"] ["restarts", "rows", "digits", "now"] (defScope s__law_waits_deed) := ⟨rfl, rfl, rfl, by decide +kernel, rfl, by decide +kernel, by decide +kernel⟩
abbrev s__law_waits_agree : Stmt := (topS 14)
theorem sc__law_waits_agree : FnScope ["restarts", "rows", "now", "slot", "later", "due", "row"] ["restarts", "rows", "now"] (defScope s__law_waits_agree) := ⟨rfl, rfl, rfl, by decide +kernel, rfl, by decide +kernel, by decide +kernel⟩
abbrev s_law : Stmt := (topS 15)
theorem sc_law : FnScope ["script", "runs", "restarts", "rows", "waits", "now", "k", "digits"] ["script"] (defScope s_law) := ⟨rfl, rfl, rfl, by decide +kernel, rfl, by decide +kernel, by decide +kernel⟩

structure TX (K : PySem.W.Frag) (mg : Str → Option Value) where
  a_Restarts : Addr
  a_Runs : Addr
  a_Restarts___init__ : Addr
  d_Restarts___init__ : FuncData
  F_Restarts___init__ : Fun K "__init__" "Restarts.__init__" s_Restarts___init__ a_Restarts___init__ d_Restarts___init__
  b_Restarts___init__ : Binds K d_Restarts___init__ ["self"] []
  a_Restarts_begun : Addr
  d_Restarts_begun : FuncData
  F_Restarts_begun : Fun K "begun" "Restarts.begun" s_Restarts_begun a_Restarts_begun d_Restarts_begun
  b_Restarts_begun : Binds K d_Restarts_begun ["self", "slot", "now"] []
  m_Restarts_begun : Meth K a_Restarts "begun" a_Restarts_begun
  a_Restarts_failed : Addr
  d_Restarts_failed : FuncData
  F_Restarts_failed : Fun K "failed" "Restarts.failed" s_Restarts_failed a_Restarts_failed d_Restarts_failed
  b_Restarts_failed : Binds K d_Restarts_failed ["self", "slot", "now"] []
  m_Restarts_failed : Meth K a_Restarts "failed" a_Restarts_failed
  a_Restarts__next_wait : Addr
  d_Restarts__next_wait : FuncData
  F_Restarts__next_wait : Fun K "_next_wait" "Restarts._next_wait" s_Restarts__next_wait a_Restarts__next_wait d_Restarts__next_wait
  b_Restarts__next_wait : Binds K d_Restarts__next_wait ["self", "slot", "now"] []
  m_Restarts__next_wait : Meth K a_Restarts "_next_wait" a_Restarts__next_wait
  a_Restarts_is_due : Addr
  d_Restarts_is_due : FuncData
  F_Restarts_is_due : Fun K "is_due" "Restarts.is_due" s_Restarts_is_due a_Restarts_is_due d_Restarts_is_due
  b_Restarts_is_due : Binds K d_Restarts_is_due ["self", "slot", "now"] []
  m_Restarts_is_due : Meth K a_Restarts "is_due" a_Restarts_is_due
  a_Restarts_forget : Addr
  d_Restarts_forget : FuncData
  F_Restarts_forget : Fun K "forget" "Restarts.forget" s_Restarts_forget a_Restarts_forget d_Restarts_forget
  b_Restarts_forget : Binds K d_Restarts_forget ["self", "slot"] []
  m_Restarts_forget : Meth K a_Restarts "forget" a_Restarts_forget
  a_Runs___init__ : Addr
  d_Runs___init__ : FuncData
  F_Runs___init__ : Fun K "__init__" "Runs.__init__" s_Runs___init__ a_Runs___init__ d_Runs___init__
  b_Runs___init__ : Binds K d_Runs___init__ ["self"] []
  a_Runs_begin : Addr
  d_Runs_begin : FuncData
  F_Runs_begin : Fun K "begin" "Runs.begin" s_Runs_begin a_Runs_begin d_Runs_begin
  b_Runs_begin : Binds K d_Runs_begin ["self", "slot", "born"] []
  m_Runs_begin : Meth K a_Runs "begin" a_Runs_begin
  a_Runs_end : Addr
  d_Runs_end : FuncData
  F_Runs_end : Fun K "end" "Runs.end" s_Runs_end a_Runs_end d_Runs_end
  b_Runs_end : Binds K d_Runs_end ["self", "slot"] []
  m_Runs_end : Meth K a_Runs "end" a_Runs_end
  a_Runs_end_all : Addr
  d_Runs_end_all : FuncData
  F_Runs_end_all : Fun K "end_all" "Runs.end_all" s_Runs_end_all a_Runs_end_all d_Runs_end_all
  b_Runs_end_all : Binds K d_Runs_end_all ["self"] []
  m_Runs_end_all : Meth K a_Runs "end_all" a_Runs_end_all
  a_Runs_born_of : Addr
  d_Runs_born_of : FuncData
  F_Runs_born_of : Fun K "born_of" "Runs.born_of" s_Runs_born_of a_Runs_born_of d_Runs_born_of
  b_Runs_born_of : Binds K d_Runs_born_of ["self", "slot"] []
  m_Runs_born_of : Meth K a_Runs "born_of" a_Runs_born_of
  a_Runs_slots : Addr
  d_Runs_slots : FuncData
  F_Runs_slots : Fun K "slots" "Runs.slots" s_Runs_slots a_Runs_slots d_Runs_slots
  b_Runs_slots : Binds K d_Runs_slots ["self"] []
  m_Runs_slots : Meth K a_Runs "slots" a_Runs_slots
  a__law_number : Addr
  d__law_number : FuncData
  F__law_number : Fun K "_law_number" "_law_number" s__law_number a__law_number d__law_number
  b__law_number : Binds K d__law_number ["script", "k"] []
  g__law_number : mg "_law_number" = some (.ref a__law_number)
  a__law_digits : Addr
  d__law_digits : FuncData
  F__law_digits : Fun K "_law_digits" "_law_digits" s__law_digits a__law_digits d__law_digits
  b__law_digits : Binds K d__law_digits ["script", "k", "sizes"] []
  g__law_digits : mg "_law_digits" = some (.ref a__law_digits)
  a__law_runs_deed : Addr
  d__law_runs_deed : FuncData
  F__law_runs_deed : Fun K "_law_runs_deed" "_law_runs_deed" s__law_runs_deed a__law_runs_deed d__law_runs_deed
  b__law_runs_deed : Binds K d__law_runs_deed ["runs", "rows", "digits"] []
  g__law_runs_deed : mg "_law_runs_deed" = some (.ref a__law_runs_deed)
  a__law_runs_agree : Addr
  d__law_runs_agree : FuncData
  F__law_runs_agree : Fun K "_law_runs_agree" "_law_runs_agree" s__law_runs_agree a__law_runs_agree d__law_runs_agree
  b__law_runs_agree : Binds K d__law_runs_agree ["runs", "rows"] []
  g__law_runs_agree : mg "_law_runs_agree" = some (.ref a__law_runs_agree)
  a__law_failed : Addr
  d__law_failed : FuncData
  F__law_failed : Fun K "_law_failed" "_law_failed" s__law_failed a__law_failed d__law_failed
  b__law_failed : Binds K d__law_failed ["row", "slot", "now"] []
  g__law_failed : mg "_law_failed" = some (.ref a__law_failed)
  a__law_waits_deed : Addr
  d__law_waits_deed : FuncData
  F__law_waits_deed : Fun K "_law_waits_deed" "_law_waits_deed" s__law_waits_deed a__law_waits_deed d__law_waits_deed
  b__law_waits_deed : Binds K d__law_waits_deed ["restarts", "rows", "digits", "now"] []
  g__law_waits_deed : mg "_law_waits_deed" = some (.ref a__law_waits_deed)
  a__law_waits_agree : Addr
  d__law_waits_agree : FuncData
  F__law_waits_agree : Fun K "_law_waits_agree" "_law_waits_agree" s__law_waits_agree a__law_waits_agree d__law_waits_agree
  b__law_waits_agree : Binds K d__law_waits_agree ["restarts", "rows", "now"] []
  g__law_waits_agree : mg "_law_waits_agree" = some (.ref a__law_waits_agree)
  a_law : Addr
  d_law : FuncData
  F_law : Fun K "law" "law" s_law a_law d_law
  b_law : Binds K d_law ["script"] []
  g_law : mg "law" = some (.ref a_law)
  K_Restarts : Cls K a_Restarts
  g_Restarts : mg "Restarts" = some (.ref a_Restarts)
  M_Restarts : Mk K a_Restarts a_Restarts___init__
  na_Restarts__begun : NoAttr K a_Restarts "_begun"
  na_Restarts__waits : NoAttr K a_Restarts "_waits"
  na_Restarts__due : NoAttr K a_Restarts "_due"
  K_Runs : Cls K a_Runs
  g_Runs : mg "Runs" = some (.ref a_Runs)
  M_Runs : Mk K a_Runs a_Runs___init__
  na_Runs__borns : NoAttr K a_Runs "_borns"
  t_FIRST_WAIT : Tok
  c_FIRST_WAIT : mg "FIRST_WAIT" = some (.int 1 t_FIRST_WAIT)
  t_MOST_WAIT : Tok
  c_MOST_WAIT : mg "MOST_WAIT" = some (.int 16 t_MOST_WAIT)
  t_LONG_RUN : Tok
  c_LONG_RUN : mg "LONG_RUN" = some (.int 32 t_LONG_RUN)
  n_len : mg "len" = none
  n_abs : mg "abs" = none
  n_int : mg "int" = none
  n_sorted : mg "sorted" = none
  n_min : mg "min" = none
  n_sum : mg "sum" = none
  n_max : mg "max" = none
  n_range : mg "range" = none

theorem ne_Restarts__begun__waits : (Str.ofString "_begun" == Str.ofString "_waits") = false := by decide +kernel
theorem ne_Restarts__begun__waits_p : ¬ (Str.ofString "_begun" = Str.ofString "_waits") := by decide +kernel
theorem ne_Restarts__begun__due : (Str.ofString "_begun" == Str.ofString "_due") = false := by decide +kernel
theorem ne_Restarts__begun__due_p : ¬ (Str.ofString "_begun" = Str.ofString "_due") := by decide +kernel
theorem ne_Restarts__waits__begun : (Str.ofString "_waits" == Str.ofString "_begun") = false := by decide +kernel
theorem ne_Restarts__waits__begun_p : ¬ (Str.ofString "_waits" = Str.ofString "_begun") := by decide +kernel
theorem ne_Restarts__waits__due : (Str.ofString "_waits" == Str.ofString "_due") = false := by decide +kernel
theorem ne_Restarts__waits__due_p : ¬ (Str.ofString "_waits" = Str.ofString "_due") := by decide +kernel
theorem ne_Restarts__due__begun : (Str.ofString "_due" == Str.ofString "_begun") = false := by decide +kernel
theorem ne_Restarts__due__begun_p : ¬ (Str.ofString "_due" = Str.ofString "_begun") := by decide +kernel
theorem ne_Restarts__due__waits : (Str.ofString "_due" == Str.ofString "_waits") = false := by decide +kernel
theorem ne_Restarts__due__waits_p : ¬ (Str.ofString "_due" = Str.ofString "_waits") := by decide +kernel
theorem ne_Restarts_begun__begun : (Str.ofString "begun" == Str.ofString "_begun") = false := by decide +kernel
theorem ne_Restarts_begun__begun_p : ¬ (Str.ofString "begun" = Str.ofString "_begun") := by decide +kernel
theorem ne_Restarts_begun__waits : (Str.ofString "begun" == Str.ofString "_waits") = false := by decide +kernel
theorem ne_Restarts_begun__waits_p : ¬ (Str.ofString "begun" = Str.ofString "_waits") := by decide +kernel
theorem ne_Restarts_begun__due : (Str.ofString "begun" == Str.ofString "_due") = false := by decide +kernel
theorem ne_Restarts_begun__due_p : ¬ (Str.ofString "begun" = Str.ofString "_due") := by decide +kernel
theorem ne_Restarts_failed__begun : (Str.ofString "failed" == Str.ofString "_begun") = false := by decide +kernel
theorem ne_Restarts_failed__begun_p : ¬ (Str.ofString "failed" = Str.ofString "_begun") := by decide +kernel
theorem ne_Restarts_failed__waits : (Str.ofString "failed" == Str.ofString "_waits") = false := by decide +kernel
theorem ne_Restarts_failed__waits_p : ¬ (Str.ofString "failed" = Str.ofString "_waits") := by decide +kernel
theorem ne_Restarts_failed__due : (Str.ofString "failed" == Str.ofString "_due") = false := by decide +kernel
theorem ne_Restarts_failed__due_p : ¬ (Str.ofString "failed" = Str.ofString "_due") := by decide +kernel
theorem ne_Restarts__next_wait__begun : (Str.ofString "_next_wait" == Str.ofString "_begun") = false := by decide +kernel
theorem ne_Restarts__next_wait__begun_p : ¬ (Str.ofString "_next_wait" = Str.ofString "_begun") := by decide +kernel
theorem ne_Restarts__next_wait__waits : (Str.ofString "_next_wait" == Str.ofString "_waits") = false := by decide +kernel
theorem ne_Restarts__next_wait__waits_p : ¬ (Str.ofString "_next_wait" = Str.ofString "_waits") := by decide +kernel
theorem ne_Restarts__next_wait__due : (Str.ofString "_next_wait" == Str.ofString "_due") = false := by decide +kernel
theorem ne_Restarts__next_wait__due_p : ¬ (Str.ofString "_next_wait" = Str.ofString "_due") := by decide +kernel
theorem ne_Restarts_is_due__begun : (Str.ofString "is_due" == Str.ofString "_begun") = false := by decide +kernel
theorem ne_Restarts_is_due__begun_p : ¬ (Str.ofString "is_due" = Str.ofString "_begun") := by decide +kernel
theorem ne_Restarts_is_due__waits : (Str.ofString "is_due" == Str.ofString "_waits") = false := by decide +kernel
theorem ne_Restarts_is_due__waits_p : ¬ (Str.ofString "is_due" = Str.ofString "_waits") := by decide +kernel
theorem ne_Restarts_is_due__due : (Str.ofString "is_due" == Str.ofString "_due") = false := by decide +kernel
theorem ne_Restarts_is_due__due_p : ¬ (Str.ofString "is_due" = Str.ofString "_due") := by decide +kernel
theorem ne_Restarts_forget__begun : (Str.ofString "forget" == Str.ofString "_begun") = false := by decide +kernel
theorem ne_Restarts_forget__begun_p : ¬ (Str.ofString "forget" = Str.ofString "_begun") := by decide +kernel
theorem ne_Restarts_forget__waits : (Str.ofString "forget" == Str.ofString "_waits") = false := by decide +kernel
theorem ne_Restarts_forget__waits_p : ¬ (Str.ofString "forget" = Str.ofString "_waits") := by decide +kernel
theorem ne_Restarts_forget__due : (Str.ofString "forget" == Str.ofString "_due") = false := by decide +kernel
theorem ne_Restarts_forget__due_p : ¬ (Str.ofString "forget" = Str.ofString "_due") := by decide +kernel
/-- the attributes of a Restarts, in the order in which they are stored -/
def fl_Restarts (v0 v1 v2 : V) : List (Str × V) := [("_begun", v0), ("_waits", v1), ("_due", v2)]
theorem fl_Restarts__begun {v0 v1 v2 : V} : (fl_Restarts v0 v1 v2).lookup ("_begun" : Str) = some v0 := by unfold fl_Restarts; simp [List.lookup, ne_Restarts__begun__waits, ne_Restarts__begun__due, ne_Restarts__waits__begun, ne_Restarts__waits__due, ne_Restarts__due__begun, ne_Restarts__due__waits, ne_Restarts_begun__begun, ne_Restarts_begun__waits, ne_Restarts_begun__due, ne_Restarts_failed__begun, ne_Restarts_failed__waits, ne_Restarts_failed__due, ne_Restarts__next_wait__begun, ne_Restarts__next_wait__waits, ne_Restarts__next_wait__due, ne_Restarts_is_due__begun, ne_Restarts_is_due__waits, ne_Restarts_is_due__due, ne_Restarts_forget__begun, ne_Restarts_forget__waits, ne_Restarts_forget__due, ne_Restarts__begun__waits_p, ne_Restarts__begun__due_p, ne_Restarts__waits__begun_p, ne_Restarts__waits__due_p, ne_Restarts__due__begun_p, ne_Restarts__due__waits_p, ne_Restarts_begun__begun_p, ne_Restarts_begun__waits_p, ne_Restarts_begun__due_p, ne_Restarts_failed__begun_p, ne_Restarts_failed__waits_p, ne_Restarts_failed__due_p, ne_Restarts__next_wait__begun_p, ne_Restarts__next_wait__waits_p, ne_Restarts__next_wait__due_p, ne_Restarts_is_due__begun_p, ne_Restarts_is_due__waits_p, ne_Restarts_is_due__due_p, ne_Restarts_forget__begun_p, ne_Restarts_forget__waits_p, ne_Restarts_forget__due_p]
theorem pf_Restarts__begun {v0 v1 v2 x : V} : putF ("_begun" : Str) x (fl_Restarts v0 v1 v2) = fl_Restarts x v1 v2 := by unfold fl_Restarts; simp [putF, ne_Restarts__begun__waits, ne_Restarts__begun__due, ne_Restarts__waits__begun, ne_Restarts__waits__due, ne_Restarts__due__begun, ne_Restarts__due__waits, ne_Restarts_begun__begun, ne_Restarts_begun__waits, ne_Restarts_begun__due, ne_Restarts_failed__begun, ne_Restarts_failed__waits, ne_Restarts_failed__due, ne_Restarts__next_wait__begun, ne_Restarts__next_wait__waits, ne_Restarts__next_wait__due, ne_Restarts_is_due__begun, ne_Restarts_is_due__waits, ne_Restarts_is_due__due, ne_Restarts_forget__begun, ne_Restarts_forget__waits, ne_Restarts_forget__due, ne_Restarts__begun__waits_p, ne_Restarts__begun__due_p, ne_Restarts__waits__begun_p, ne_Restarts__waits__due_p, ne_Restarts__due__begun_p, ne_Restarts__due__waits_p, ne_Restarts_begun__begun_p, ne_Restarts_begun__waits_p, ne_Restarts_begun__due_p, ne_Restarts_failed__begun_p, ne_Restarts_failed__waits_p, ne_Restarts_failed__due_p, ne_Restarts__next_wait__begun_p, ne_Restarts__next_wait__waits_p, ne_Restarts__next_wait__due_p, ne_Restarts_is_due__begun_p, ne_Restarts_is_due__waits_p, ne_Restarts_is_due__due_p, ne_Restarts_forget__begun_p, ne_Restarts_forget__waits_p, ne_Restarts_forget__due_p]
theorem fl_Restarts__waits {v0 v1 v2 : V} : (fl_Restarts v0 v1 v2).lookup ("_waits" : Str) = some v1 := by unfold fl_Restarts; simp [List.lookup, ne_Restarts__begun__waits, ne_Restarts__begun__due, ne_Restarts__waits__begun, ne_Restarts__waits__due, ne_Restarts__due__begun, ne_Restarts__due__waits, ne_Restarts_begun__begun, ne_Restarts_begun__waits, ne_Restarts_begun__due, ne_Restarts_failed__begun, ne_Restarts_failed__waits, ne_Restarts_failed__due, ne_Restarts__next_wait__begun, ne_Restarts__next_wait__waits, ne_Restarts__next_wait__due, ne_Restarts_is_due__begun, ne_Restarts_is_due__waits, ne_Restarts_is_due__due, ne_Restarts_forget__begun, ne_Restarts_forget__waits, ne_Restarts_forget__due, ne_Restarts__begun__waits_p, ne_Restarts__begun__due_p, ne_Restarts__waits__begun_p, ne_Restarts__waits__due_p, ne_Restarts__due__begun_p, ne_Restarts__due__waits_p, ne_Restarts_begun__begun_p, ne_Restarts_begun__waits_p, ne_Restarts_begun__due_p, ne_Restarts_failed__begun_p, ne_Restarts_failed__waits_p, ne_Restarts_failed__due_p, ne_Restarts__next_wait__begun_p, ne_Restarts__next_wait__waits_p, ne_Restarts__next_wait__due_p, ne_Restarts_is_due__begun_p, ne_Restarts_is_due__waits_p, ne_Restarts_is_due__due_p, ne_Restarts_forget__begun_p, ne_Restarts_forget__waits_p, ne_Restarts_forget__due_p]
theorem pf_Restarts__waits {v0 v1 v2 x : V} : putF ("_waits" : Str) x (fl_Restarts v0 v1 v2) = fl_Restarts v0 x v2 := by unfold fl_Restarts; simp [putF, ne_Restarts__begun__waits, ne_Restarts__begun__due, ne_Restarts__waits__begun, ne_Restarts__waits__due, ne_Restarts__due__begun, ne_Restarts__due__waits, ne_Restarts_begun__begun, ne_Restarts_begun__waits, ne_Restarts_begun__due, ne_Restarts_failed__begun, ne_Restarts_failed__waits, ne_Restarts_failed__due, ne_Restarts__next_wait__begun, ne_Restarts__next_wait__waits, ne_Restarts__next_wait__due, ne_Restarts_is_due__begun, ne_Restarts_is_due__waits, ne_Restarts_is_due__due, ne_Restarts_forget__begun, ne_Restarts_forget__waits, ne_Restarts_forget__due, ne_Restarts__begun__waits_p, ne_Restarts__begun__due_p, ne_Restarts__waits__begun_p, ne_Restarts__waits__due_p, ne_Restarts__due__begun_p, ne_Restarts__due__waits_p, ne_Restarts_begun__begun_p, ne_Restarts_begun__waits_p, ne_Restarts_begun__due_p, ne_Restarts_failed__begun_p, ne_Restarts_failed__waits_p, ne_Restarts_failed__due_p, ne_Restarts__next_wait__begun_p, ne_Restarts__next_wait__waits_p, ne_Restarts__next_wait__due_p, ne_Restarts_is_due__begun_p, ne_Restarts_is_due__waits_p, ne_Restarts_is_due__due_p, ne_Restarts_forget__begun_p, ne_Restarts_forget__waits_p, ne_Restarts_forget__due_p]
theorem fl_Restarts__due {v0 v1 v2 : V} : (fl_Restarts v0 v1 v2).lookup ("_due" : Str) = some v2 := by unfold fl_Restarts; simp [List.lookup, ne_Restarts__begun__waits, ne_Restarts__begun__due, ne_Restarts__waits__begun, ne_Restarts__waits__due, ne_Restarts__due__begun, ne_Restarts__due__waits, ne_Restarts_begun__begun, ne_Restarts_begun__waits, ne_Restarts_begun__due, ne_Restarts_failed__begun, ne_Restarts_failed__waits, ne_Restarts_failed__due, ne_Restarts__next_wait__begun, ne_Restarts__next_wait__waits, ne_Restarts__next_wait__due, ne_Restarts_is_due__begun, ne_Restarts_is_due__waits, ne_Restarts_is_due__due, ne_Restarts_forget__begun, ne_Restarts_forget__waits, ne_Restarts_forget__due, ne_Restarts__begun__waits_p, ne_Restarts__begun__due_p, ne_Restarts__waits__begun_p, ne_Restarts__waits__due_p, ne_Restarts__due__begun_p, ne_Restarts__due__waits_p, ne_Restarts_begun__begun_p, ne_Restarts_begun__waits_p, ne_Restarts_begun__due_p, ne_Restarts_failed__begun_p, ne_Restarts_failed__waits_p, ne_Restarts_failed__due_p, ne_Restarts__next_wait__begun_p, ne_Restarts__next_wait__waits_p, ne_Restarts__next_wait__due_p, ne_Restarts_is_due__begun_p, ne_Restarts_is_due__waits_p, ne_Restarts_is_due__due_p, ne_Restarts_forget__begun_p, ne_Restarts_forget__waits_p, ne_Restarts_forget__due_p]
theorem pf_Restarts__due {v0 v1 v2 x : V} : putF ("_due" : Str) x (fl_Restarts v0 v1 v2) = fl_Restarts v0 v1 x := by unfold fl_Restarts; simp [putF, ne_Restarts__begun__waits, ne_Restarts__begun__due, ne_Restarts__waits__begun, ne_Restarts__waits__due, ne_Restarts__due__begun, ne_Restarts__due__waits, ne_Restarts_begun__begun, ne_Restarts_begun__waits, ne_Restarts_begun__due, ne_Restarts_failed__begun, ne_Restarts_failed__waits, ne_Restarts_failed__due, ne_Restarts__next_wait__begun, ne_Restarts__next_wait__waits, ne_Restarts__next_wait__due, ne_Restarts_is_due__begun, ne_Restarts_is_due__waits, ne_Restarts_is_due__due, ne_Restarts_forget__begun, ne_Restarts_forget__waits, ne_Restarts_forget__due, ne_Restarts__begun__waits_p, ne_Restarts__begun__due_p, ne_Restarts__waits__begun_p, ne_Restarts__waits__due_p, ne_Restarts__due__begun_p, ne_Restarts__due__waits_p, ne_Restarts_begun__begun_p, ne_Restarts_begun__waits_p, ne_Restarts_begun__due_p, ne_Restarts_failed__begun_p, ne_Restarts_failed__waits_p, ne_Restarts_failed__due_p, ne_Restarts__next_wait__begun_p, ne_Restarts__next_wait__waits_p, ne_Restarts__next_wait__due_p, ne_Restarts_is_due__begun_p, ne_Restarts_is_due__waits_p, ne_Restarts_is_due__due_p, ne_Restarts_forget__begun_p, ne_Restarts_forget__waits_p, ne_Restarts_forget__due_p]
theorem fl_Restarts_no_begun {v0 v1 v2 : V} : (fl_Restarts v0 v1 v2).lookup ("begun" : Str) = none := by unfold fl_Restarts; simp [List.lookup, ne_Restarts__begun__waits, ne_Restarts__begun__due, ne_Restarts__waits__begun, ne_Restarts__waits__due, ne_Restarts__due__begun, ne_Restarts__due__waits, ne_Restarts_begun__begun, ne_Restarts_begun__waits, ne_Restarts_begun__due, ne_Restarts_failed__begun, ne_Restarts_failed__waits, ne_Restarts_failed__due, ne_Restarts__next_wait__begun, ne_Restarts__next_wait__waits, ne_Restarts__next_wait__due, ne_Restarts_is_due__begun, ne_Restarts_is_due__waits, ne_Restarts_is_due__due, ne_Restarts_forget__begun, ne_Restarts_forget__waits, ne_Restarts_forget__due, ne_Restarts__begun__waits_p, ne_Restarts__begun__due_p, ne_Restarts__waits__begun_p, ne_Restarts__waits__due_p, ne_Restarts__due__begun_p, ne_Restarts__due__waits_p, ne_Restarts_begun__begun_p, ne_Restarts_begun__waits_p, ne_Restarts_begun__due_p, ne_Restarts_failed__begun_p, ne_Restarts_failed__waits_p, ne_Restarts_failed__due_p, ne_Restarts__next_wait__begun_p, ne_Restarts__next_wait__waits_p, ne_Restarts__next_wait__due_p, ne_Restarts_is_due__begun_p, ne_Restarts_is_due__waits_p, ne_Restarts_is_due__due_p, ne_Restarts_forget__begun_p, ne_Restarts_forget__waits_p, ne_Restarts_forget__due_p]
theorem fl_Restarts_no_failed {v0 v1 v2 : V} : (fl_Restarts v0 v1 v2).lookup ("failed" : Str) = none := by unfold fl_Restarts; simp [List.lookup, ne_Restarts__begun__waits, ne_Restarts__begun__due, ne_Restarts__waits__begun, ne_Restarts__waits__due, ne_Restarts__due__begun, ne_Restarts__due__waits, ne_Restarts_begun__begun, ne_Restarts_begun__waits, ne_Restarts_begun__due, ne_Restarts_failed__begun, ne_Restarts_failed__waits, ne_Restarts_failed__due, ne_Restarts__next_wait__begun, ne_Restarts__next_wait__waits, ne_Restarts__next_wait__due, ne_Restarts_is_due__begun, ne_Restarts_is_due__waits, ne_Restarts_is_due__due, ne_Restarts_forget__begun, ne_Restarts_forget__waits, ne_Restarts_forget__due, ne_Restarts__begun__waits_p, ne_Restarts__begun__due_p, ne_Restarts__waits__begun_p, ne_Restarts__waits__due_p, ne_Restarts__due__begun_p, ne_Restarts__due__waits_p, ne_Restarts_begun__begun_p, ne_Restarts_begun__waits_p, ne_Restarts_begun__due_p, ne_Restarts_failed__begun_p, ne_Restarts_failed__waits_p, ne_Restarts_failed__due_p, ne_Restarts__next_wait__begun_p, ne_Restarts__next_wait__waits_p, ne_Restarts__next_wait__due_p, ne_Restarts_is_due__begun_p, ne_Restarts_is_due__waits_p, ne_Restarts_is_due__due_p, ne_Restarts_forget__begun_p, ne_Restarts_forget__waits_p, ne_Restarts_forget__due_p]
theorem fl_Restarts_no__next_wait {v0 v1 v2 : V} : (fl_Restarts v0 v1 v2).lookup ("_next_wait" : Str) = none := by unfold fl_Restarts; simp [List.lookup, ne_Restarts__begun__waits, ne_Restarts__begun__due, ne_Restarts__waits__begun, ne_Restarts__waits__due, ne_Restarts__due__begun, ne_Restarts__due__waits, ne_Restarts_begun__begun, ne_Restarts_begun__waits, ne_Restarts_begun__due, ne_Restarts_failed__begun, ne_Restarts_failed__waits, ne_Restarts_failed__due, ne_Restarts__next_wait__begun, ne_Restarts__next_wait__waits, ne_Restarts__next_wait__due, ne_Restarts_is_due__begun, ne_Restarts_is_due__waits, ne_Restarts_is_due__due, ne_Restarts_forget__begun, ne_Restarts_forget__waits, ne_Restarts_forget__due, ne_Restarts__begun__waits_p, ne_Restarts__begun__due_p, ne_Restarts__waits__begun_p, ne_Restarts__waits__due_p, ne_Restarts__due__begun_p, ne_Restarts__due__waits_p, ne_Restarts_begun__begun_p, ne_Restarts_begun__waits_p, ne_Restarts_begun__due_p, ne_Restarts_failed__begun_p, ne_Restarts_failed__waits_p, ne_Restarts_failed__due_p, ne_Restarts__next_wait__begun_p, ne_Restarts__next_wait__waits_p, ne_Restarts__next_wait__due_p, ne_Restarts_is_due__begun_p, ne_Restarts_is_due__waits_p, ne_Restarts_is_due__due_p, ne_Restarts_forget__begun_p, ne_Restarts_forget__waits_p, ne_Restarts_forget__due_p]
theorem fl_Restarts_no_is_due {v0 v1 v2 : V} : (fl_Restarts v0 v1 v2).lookup ("is_due" : Str) = none := by unfold fl_Restarts; simp [List.lookup, ne_Restarts__begun__waits, ne_Restarts__begun__due, ne_Restarts__waits__begun, ne_Restarts__waits__due, ne_Restarts__due__begun, ne_Restarts__due__waits, ne_Restarts_begun__begun, ne_Restarts_begun__waits, ne_Restarts_begun__due, ne_Restarts_failed__begun, ne_Restarts_failed__waits, ne_Restarts_failed__due, ne_Restarts__next_wait__begun, ne_Restarts__next_wait__waits, ne_Restarts__next_wait__due, ne_Restarts_is_due__begun, ne_Restarts_is_due__waits, ne_Restarts_is_due__due, ne_Restarts_forget__begun, ne_Restarts_forget__waits, ne_Restarts_forget__due, ne_Restarts__begun__waits_p, ne_Restarts__begun__due_p, ne_Restarts__waits__begun_p, ne_Restarts__waits__due_p, ne_Restarts__due__begun_p, ne_Restarts__due__waits_p, ne_Restarts_begun__begun_p, ne_Restarts_begun__waits_p, ne_Restarts_begun__due_p, ne_Restarts_failed__begun_p, ne_Restarts_failed__waits_p, ne_Restarts_failed__due_p, ne_Restarts__next_wait__begun_p, ne_Restarts__next_wait__waits_p, ne_Restarts__next_wait__due_p, ne_Restarts_is_due__begun_p, ne_Restarts_is_due__waits_p, ne_Restarts_is_due__due_p, ne_Restarts_forget__begun_p, ne_Restarts_forget__waits_p, ne_Restarts_forget__due_p]
theorem fl_Restarts_no_forget {v0 v1 v2 : V} : (fl_Restarts v0 v1 v2).lookup ("forget" : Str) = none := by unfold fl_Restarts; simp [List.lookup, ne_Restarts__begun__waits, ne_Restarts__begun__due, ne_Restarts__waits__begun, ne_Restarts__waits__due, ne_Restarts__due__begun, ne_Restarts__due__waits, ne_Restarts_begun__begun, ne_Restarts_begun__waits, ne_Restarts_begun__due, ne_Restarts_failed__begun, ne_Restarts_failed__waits, ne_Restarts_failed__due, ne_Restarts__next_wait__begun, ne_Restarts__next_wait__waits, ne_Restarts__next_wait__due, ne_Restarts_is_due__begun, ne_Restarts_is_due__waits, ne_Restarts_is_due__due, ne_Restarts_forget__begun, ne_Restarts_forget__waits, ne_Restarts_forget__due, ne_Restarts__begun__waits_p, ne_Restarts__begun__due_p, ne_Restarts__waits__begun_p, ne_Restarts__waits__due_p, ne_Restarts__due__begun_p, ne_Restarts__due__waits_p, ne_Restarts_begun__begun_p, ne_Restarts_begun__waits_p, ne_Restarts_begun__due_p, ne_Restarts_failed__begun_p, ne_Restarts_failed__waits_p, ne_Restarts_failed__due_p, ne_Restarts__next_wait__begun_p, ne_Restarts__next_wait__waits_p, ne_Restarts__next_wait__due_p, ne_Restarts_is_due__begun_p, ne_Restarts_is_due__waits_p, ne_Restarts_is_due__due_p, ne_Restarts_forget__begun_p, ne_Restarts_forget__waits_p, ne_Restarts_forget__due_p]
theorem fl_Restarts_new {v0 v1 v2 : V} : putF ("_due" : Str) v2 (putF ("_waits" : Str) v1 (putF ("_begun" : Str) v0 ([]))) = fl_Restarts v0 v1 v2 := by unfold fl_Restarts; simp [putF, ne_Restarts__begun__waits, ne_Restarts__begun__due, ne_Restarts__waits__begun, ne_Restarts__waits__due, ne_Restarts__due__begun, ne_Restarts__due__waits, ne_Restarts_begun__begun, ne_Restarts_begun__waits, ne_Restarts_begun__due, ne_Restarts_failed__begun, ne_Restarts_failed__waits, ne_Restarts_failed__due, ne_Restarts__next_wait__begun, ne_Restarts__next_wait__waits, ne_Restarts__next_wait__due, ne_Restarts_is_due__begun, ne_Restarts_is_due__waits, ne_Restarts_is_due__due, ne_Restarts_forget__begun, ne_Restarts_forget__waits, ne_Restarts_forget__due, ne_Restarts__begun__waits_p, ne_Restarts__begun__due_p, ne_Restarts__waits__begun_p, ne_Restarts__waits__due_p, ne_Restarts__due__begun_p, ne_Restarts__due__waits_p, ne_Restarts_begun__begun_p, ne_Restarts_begun__waits_p, ne_Restarts_begun__due_p, ne_Restarts_failed__begun_p, ne_Restarts_failed__waits_p, ne_Restarts_failed__due_p, ne_Restarts__next_wait__begun_p, ne_Restarts__next_wait__waits_p, ne_Restarts__next_wait__due_p, ne_Restarts_is_due__begun_p, ne_Restarts_is_due__waits_p, ne_Restarts_is_due__due_p, ne_Restarts_forget__begun_p, ne_Restarts_forget__waits_p, ne_Restarts_forget__due_p]
theorem ne_Runs_begin__borns : (Str.ofString "begin" == Str.ofString "_borns") = false := by decide +kernel
theorem ne_Runs_begin__borns_p : ¬ (Str.ofString "begin" = Str.ofString "_borns") := by decide +kernel
theorem ne_Runs_end__borns : (Str.ofString "end" == Str.ofString "_borns") = false := by decide +kernel
theorem ne_Runs_end__borns_p : ¬ (Str.ofString "end" = Str.ofString "_borns") := by decide +kernel
theorem ne_Runs_end_all__borns : (Str.ofString "end_all" == Str.ofString "_borns") = false := by decide +kernel
theorem ne_Runs_end_all__borns_p : ¬ (Str.ofString "end_all" = Str.ofString "_borns") := by decide +kernel
theorem ne_Runs_born_of__borns : (Str.ofString "born_of" == Str.ofString "_borns") = false := by decide +kernel
theorem ne_Runs_born_of__borns_p : ¬ (Str.ofString "born_of" = Str.ofString "_borns") := by decide +kernel
theorem ne_Runs_slots__borns : (Str.ofString "slots" == Str.ofString "_borns") = false := by decide +kernel
theorem ne_Runs_slots__borns_p : ¬ (Str.ofString "slots" = Str.ofString "_borns") := by decide +kernel
/-- the attributes of a Runs, in the order in which they are stored -/
def fl_Runs (v0 : V) : List (Str × V) := [("_borns", v0)]
theorem fl_Runs__borns {v0 : V} : (fl_Runs v0).lookup ("_borns" : Str) = some v0 := by unfold fl_Runs; simp [List.lookup, ne_Runs_begin__borns, ne_Runs_end__borns, ne_Runs_end_all__borns, ne_Runs_born_of__borns, ne_Runs_slots__borns, ne_Runs_begin__borns_p, ne_Runs_end__borns_p, ne_Runs_end_all__borns_p, ne_Runs_born_of__borns_p, ne_Runs_slots__borns_p]
theorem pf_Runs__borns {v0 x : V} : putF ("_borns" : Str) x (fl_Runs v0) = fl_Runs x := by unfold fl_Runs; simp [putF, ne_Runs_begin__borns, ne_Runs_end__borns, ne_Runs_end_all__borns, ne_Runs_born_of__borns, ne_Runs_slots__borns, ne_Runs_begin__borns_p, ne_Runs_end__borns_p, ne_Runs_end_all__borns_p, ne_Runs_born_of__borns_p, ne_Runs_slots__borns_p]
theorem fl_Runs_no_begin {v0 : V} : (fl_Runs v0).lookup ("begin" : Str) = none := by unfold fl_Runs; simp [List.lookup, ne_Runs_begin__borns, ne_Runs_end__borns, ne_Runs_end_all__borns, ne_Runs_born_of__borns, ne_Runs_slots__borns, ne_Runs_begin__borns_p, ne_Runs_end__borns_p, ne_Runs_end_all__borns_p, ne_Runs_born_of__borns_p, ne_Runs_slots__borns_p]
theorem fl_Runs_no_end {v0 : V} : (fl_Runs v0).lookup ("end" : Str) = none := by unfold fl_Runs; simp [List.lookup, ne_Runs_begin__borns, ne_Runs_end__borns, ne_Runs_end_all__borns, ne_Runs_born_of__borns, ne_Runs_slots__borns, ne_Runs_begin__borns_p, ne_Runs_end__borns_p, ne_Runs_end_all__borns_p, ne_Runs_born_of__borns_p, ne_Runs_slots__borns_p]
theorem fl_Runs_no_end_all {v0 : V} : (fl_Runs v0).lookup ("end_all" : Str) = none := by unfold fl_Runs; simp [List.lookup, ne_Runs_begin__borns, ne_Runs_end__borns, ne_Runs_end_all__borns, ne_Runs_born_of__borns, ne_Runs_slots__borns, ne_Runs_begin__borns_p, ne_Runs_end__borns_p, ne_Runs_end_all__borns_p, ne_Runs_born_of__borns_p, ne_Runs_slots__borns_p]
theorem fl_Runs_no_born_of {v0 : V} : (fl_Runs v0).lookup ("born_of" : Str) = none := by unfold fl_Runs; simp [List.lookup, ne_Runs_begin__borns, ne_Runs_end__borns, ne_Runs_end_all__borns, ne_Runs_born_of__borns, ne_Runs_slots__borns, ne_Runs_begin__borns_p, ne_Runs_end__borns_p, ne_Runs_end_all__borns_p, ne_Runs_born_of__borns_p, ne_Runs_slots__borns_p]
theorem fl_Runs_no_slots {v0 : V} : (fl_Runs v0).lookup ("slots" : Str) = none := by unfold fl_Runs; simp [List.lookup, ne_Runs_begin__borns, ne_Runs_end__borns, ne_Runs_end_all__borns, ne_Runs_born_of__borns, ne_Runs_slots__borns, ne_Runs_begin__borns_p, ne_Runs_end__borns_p, ne_Runs_end_all__borns_p, ne_Runs_born_of__borns_p, ne_Runs_slots__borns_p]
theorem fl_Runs_new {v0 : V} : putF ("_borns" : Str) v0 ([]) = fl_Runs v0 := by unfold fl_Runs; simp [putF, ne_Runs_begin__borns, ne_Runs_end__borns, ne_Runs_end_all__borns, ne_Runs_born_of__borns, ne_Runs_slots__borns, ne_Runs_begin__borns_p, ne_Runs_end__borns_p, ne_Runs_end_all__borns_p, ne_Runs_born_of__borns_p, ne_Runs_slots__borns_p]

/-- a statement that changes nothing, then the rest -/
theorem cut_same {t u : TS} {D : L2.Ends} {σ : L2.St} {H : Hp} (h1 : t { D with nx := fun σ' G => σ' = σ ∧ G = H } σ H) (h2 : u D σ H) : C8.tCut t u D σ H := ⟨_, h1, fun _ _ ⟨a, b⟩ => by rw [a, b]; exact h2⟩
/-- the slots written out -/
theorem nrm4 {t : TS} {D : L2.Ends} {σ : L2.St} {H : Hp} {a0 a1 a2 a3 : Option V} (e : σ = [a0, a1, a2, a3]) (h : t D [a0, a1, a2, a3] H) : t D σ H := by rw [e]; exact h
theorem nrm5 {t : TS} {D : L2.Ends} {σ : L2.St} {H : Hp} {a0 a1 a2 a3 a4 : Option V} (e : σ = [a0, a1, a2, a3, a4]) (h : t D [a0, a1, a2, a3, a4] H) : t D σ H := by rw [e]; exact h
theorem nrm6 {t : TS} {D : L2.Ends} {σ : L2.St} {H : Hp} {a0 a1 a2 a3 a4 a5 : Option V} (e : σ = [a0, a1, a2, a3, a4, a5]) (h : t D [a0, a1, a2, a3, a4, a5] H) : t D σ H := by rw [e]; exact h
theorem nrm7 {t : TS} {D : L2.Ends} {σ : L2.St} {H : Hp} {a0 a1 a2 a3 a4 a5 a6 : Option V} (e : σ = [a0, a1, a2, a3, a4, a5, a6]) (h : t D [a0, a1, a2, a3, a4, a5, a6] H) : t D σ H := by rw [e]; exact h
theorem nrm8 {t : TS} {D : L2.Ends} {σ : L2.St} {H : Hp} {a0 a1 a2 a3 a4 a5 a6 a7 : Option V} (e : σ = [a0, a1, a2, a3, a4, a5, a6, a7]) (h : t D [a0, a1, a2, a3, a4, a5, a6, a7] H) : t D σ H := by rw [e]; exact h
theorem nrm9 {t : TS} {D : L2.Ends} {σ : L2.St} {H : Hp} {a0 a1 a2 a3 a4 a5 a6 a7 a8 : Option V} (e : σ = [a0, a1, a2, a3, a4, a5, a6, a7, a8]) (h : t D [a0, a1, a2, a3, a4, a5, a6, a7, a8] H) : t D σ H := by rw [e]; exact h
theorem nrm10 {t : TS} {D : L2.Ends} {σ : L2.St} {H : Hp} {a0 a1 a2 a3 a4 a5 a6 a7 a8 a9 : Option V} (e : σ = [a0, a1, a2, a3, a4, a5, a6, a7, a8, a9]) (h : t D [a0, a1, a2, a3, a4, a5, a6, a7, a8, a9] H) : t D σ H := by rw [e]; exact h
theorem nrm11 {t : TS} {D : L2.Ends} {σ : L2.St} {H : Hp} {a0 a1 a2 a3 a4 a5 a6 a7 a8 a9 a10 : Option V} (e : σ = [a0, a1, a2, a3, a4, a5, a6, a7, a8, a9, a10]) (h : t D [a0, a1, a2, a3, a4, a5, a6, a7, a8, a9, a10] H) : t D σ H := by rw [e]; exact h
theorem nrm12 {t : TS} {D : L2.Ends} {σ : L2.St} {H : Hp} {a0 a1 a2 a3 a4 a5 a6 a7 a8 a9 a10 a11 : Option V} (e : σ = [a0, a1, a2, a3, a4, a5, a6, a7, a8, a9, a10, a11]) (h : t D [a0, a1, a2, a3, a4, a5, a6, a7, a8, a9, a10, a11] H) : t D σ H := by rw [e]; exact h
theorem nrm13 {t : TS} {D : L2.Ends} {σ : L2.St} {H : Hp} {a0 a1 a2 a3 a4 a5 a6 a7 a8 a9 a10 a11 a12 : Option V} (e : σ = [a0, a1, a2, a3, a4, a5, a6, a7, a8, a9, a10, a11, a12]) (h : t D [a0, a1, a2, a3, a4, a5, a6, a7, a8, a9, a10, a11, a12] H) : t D σ H := by rw [e]; exact h
theorem nrm14 {t : TS} {D : L2.Ends} {σ : L2.St} {H : Hp} {a0 a1 a2 a3 a4 a5 a6 a7 a8 a9 a10 a11 a12 a13 : Option V} (e : σ = [a0, a1, a2, a3, a4, a5, a6, a7, a8, a9, a10, a11, a12, a13]) (h : t D [a0, a1, a2, a3, a4, a5, a6, a7, a8, a9, a10, a11, a12, a13] H) : t D σ H := by rw [e]; exact h
theorem nrm15 {t : TS} {D : L2.Ends} {σ : L2.St} {H : Hp} {a0 a1 a2 a3 a4 a5 a6 a7 a8 a9 a10 a11 a12 a13 a14 : Option V} (e : σ = [a0, a1, a2, a3, a4, a5, a6, a7, a8, a9, a10, a11, a12, a13, a14]) (h : t D [a0, a1, a2, a3, a4, a5, a6, a7, a8, a9, a10, a11, a12, a13, a14] H) : t D σ H := by rw [e]; exact h
theorem nrm16 {t : TS} {D : L2.Ends} {σ : L2.St} {H : Hp} {a0 a1 a2 a3 a4 a5 a6 a7 a8 a9 a10 a11 a12 a13 a14 a15 : Option V} (e : σ = [a0, a1, a2, a3, a4, a5, a6, a7, a8, a9, a10, a11, a12, a13, a14, a15]) (h : t D [a0, a1, a2, a3, a4, a5, a6, a7, a8, a9, a10, a11, a12, a13, a14, a15] H) : t D σ H := by rw [e]; exact h
theorem nrm17 {t : TS} {D : L2.Ends} {σ : L2.St} {H : Hp} {a0 a1 a2 a3 a4 a5 a6 a7 a8 a9 a10 a11 a12 a13 a14 a15 a16 : Option V} (e : σ = [a0, a1, a2, a3, a4, a5, a6, a7, a8, a9, a10, a11, a12, a13, a14, a15, a16]) (h : t D [a0, a1, a2, a3, a4, a5, a6, a7, a8, a9, a10, a11, a12, a13, a14, a15, a16] H) : t D σ H := by rw [e]; exact h
theorem nrm18 {t : TS} {D : L2.Ends} {σ : L2.St} {H : Hp} {a0 a1 a2 a3 a4 a5 a6 a7 a8 a9 a10 a11 a12 a13 a14 a15 a16 a17 : Option V} (e : σ = [a0, a1, a2, a3, a4, a5, a6, a7, a8, a9, a10, a11, a12, a13, a14, a15, a16, a17]) (h : t D [a0, a1, a2, a3, a4, a5, a6, a7, a8, a9, a10, a11, a12, a13, a14, a15, a16, a17] H) : t D σ H := by rw [e]; exact h
theorem nrm19 {t : TS} {D : L2.Ends} {σ : L2.St} {H : Hp} {a0 a1 a2 a3 a4 a5 a6 a7 a8 a9 a10 a11 a12 a13 a14 a15 a16 a17 a18 : Option V} (e : σ = [a0, a1, a2, a3, a4, a5, a6, a7, a8, a9, a10, a11, a12, a13, a14, a15, a16, a17, a18]) (h : t D [a0, a1, a2, a3, a4, a5, a6, a7, a8, a9, a10, a11, a12, a13, a14, a15, a16, a17, a18] H) : t D σ H := by rw [e]; exact h
theorem nrm20 {t : TS} {D : L2.Ends} {σ : L2.St} {H : Hp} {a0 a1 a2 a3 a4 a5 a6 a7 a8 a9 a10 a11 a12 a13 a14 a15 a16 a17 a18 a19 : Option V} (e : σ = [a0, a1, a2, a3, a4, a5, a6, a7, a8, a9, a10, a11, a12, a13, a14, a15, a16, a17, a18, a19]) (h : t D [a0, a1, a2, a3, a4, a5, a6, a7, a8, a9, a10, a11, a12, a13, a14, a15, a16, a17, a18, a19] H) : t D σ H := by rw [e]; exact h
theorem nrm21 {t : TS} {D : L2.Ends} {σ : L2.St} {H : Hp} {a0 a1 a2 a3 a4 a5 a6 a7 a8 a9 a10 a11 a12 a13 a14 a15 a16 a17 a18 a19 a20 : Option V} (e : σ = [a0, a1, a2, a3, a4, a5, a6, a7, a8, a9, a10, a11, a12, a13, a14, a15, a16, a17, a18, a19, a20]) (h : t D [a0, a1, a2, a3, a4, a5, a6, a7, a8, a9, a10, a11, a12, a13, a14, a15, a16, a17, a18, a19, a20] H) : t D σ H := by rw [e]; exact h
theorem nrm22 {t : TS} {D : L2.Ends} {σ : L2.St} {H : Hp} {a0 a1 a2 a3 a4 a5 a6 a7 a8 a9 a10 a11 a12 a13 a14 a15 a16 a17 a18 a19 a20 a21 : Option V} (e : σ = [a0, a1, a2, a3, a4, a5, a6, a7, a8, a9, a10, a11, a12, a13, a14, a15, a16, a17, a18, a19, a20, a21]) (h : t D [a0, a1, a2, a3, a4, a5, a6, a7, a8, a9, a10, a11, a12, a13, a14, a15, a16, a17, a18, a19, a20, a21] H) : t D σ H := by rw [e]; exact h
theorem nrm23 {t : TS} {D : L2.Ends} {σ : L2.St} {H : Hp} {a0 a1 a2 a3 a4 a5 a6 a7 a8 a9 a10 a11 a12 a13 a14 a15 a16 a17 a18 a19 a20 a21 a22 : Option V} (e : σ = [a0, a1, a2, a3, a4, a5, a6, a7, a8, a9, a10, a11, a12, a13, a14, a15, a16, a17, a18, a19, a20, a21, a22]) (h : t D [a0, a1, a2, a3, a4, a5, a6, a7, a8, a9, a10, a11, a12, a13, a14, a15, a16, a17, a18, a19, a20, a21, a22] H) : t D σ H := by rw [e]; exact h
theorem nrm24 {t : TS} {D : L2.Ends} {σ : L2.St} {H : Hp} {a0 a1 a2 a3 a4 a5 a6 a7 a8 a9 a10 a11 a12 a13 a14 a15 a16 a17 a18 a19 a20 a21 a22 a23 : Option V} (e : σ = [a0, a1, a2, a3, a4, a5, a6, a7, a8, a9, a10, a11, a12, a13, a14, a15, a16, a17, a18, a19, a20, a21, a22, a23]) (h : t D [a0, a1, a2, a3, a4, a5, a6, a7, a8, a9, a10, a11, a12, a13, a14, a15, a16, a17, a18, a19, a20, a21, a22, a23] H) : t D σ H := by rw [e]; exact h
theorem nrm25 {t : TS} {D : L2.Ends} {σ : L2.St} {H : Hp} {a0 a1 a2 a3 a4 a5 a6 a7 a8 a9 a10 a11 a12 a13 a14 a15 a16 a17 a18 a19 a20 a21 a22 a23 a24 : Option V} (e : σ = [a0, a1, a2, a3, a4, a5, a6, a7, a8, a9, a10, a11, a12, a13, a14, a15, a16, a17, a18, a19, a20, a21, a22, a23, a24]) (h : t D [a0, a1, a2, a3, a4, a5, a6, a7, a8, a9, a10, a11, a12, a13, a14, a15, a16, a17, a18, a19, a20, a21, a22, a23, a24] H) : t D σ H := by rw [e]; exact h
theorem nrm26 {t : TS} {D : L2.Ends} {σ : L2.St} {H : Hp} {a0 a1 a2 a3 a4 a5 a6 a7 a8 a9 a10 a11 a12 a13 a14 a15 a16 a17 a18 a19 a20 a21 a22 a23 a24 a25 : Option V} (e : σ = [a0, a1, a2, a3, a4, a5, a6, a7, a8, a9, a10, a11, a12, a13, a14, a15, a16, a17, a18, a19, a20, a21, a22, a23, a24, a25]) (h : t D [a0, a1, a2, a3, a4, a5, a6, a7, a8, a9, a10, a11, a12, a13, a14, a15, a16, a17, a18, a19, a20, a21, a22, a23, a24, a25] H) : t D σ H := by rw [e]; exact h
/-- a name is stored, the slots written out -/
theorem gnm4 {i : Nat} {v : V} {σ : L2.St} {H : Hp} {Q : L2.St → Hp → Prop} {a0 a1 a2 a3 : Option V} (e : σ.set i (some v) = [a0, a1, a2, a3]) (h : Q [a0, a1, a2, a3] H) : gName i v σ H Q := by show Q (σ.set i (some v)) H; rw [e]; exact h
theorem gnm5 {i : Nat} {v : V} {σ : L2.St} {H : Hp} {Q : L2.St → Hp → Prop} {a0 a1 a2 a3 a4 : Option V} (e : σ.set i (some v) = [a0, a1, a2, a3, a4]) (h : Q [a0, a1, a2, a3, a4] H) : gName i v σ H Q := by show Q (σ.set i (some v)) H; rw [e]; exact h
theorem gnm6 {i : Nat} {v : V} {σ : L2.St} {H : Hp} {Q : L2.St → Hp → Prop} {a0 a1 a2 a3 a4 a5 : Option V} (e : σ.set i (some v) = [a0, a1, a2, a3, a4, a5]) (h : Q [a0, a1, a2, a3, a4, a5] H) : gName i v σ H Q := by show Q (σ.set i (some v)) H; rw [e]; exact h
theorem gnm7 {i : Nat} {v : V} {σ : L2.St} {H : Hp} {Q : L2.St → Hp → Prop} {a0 a1 a2 a3 a4 a5 a6 : Option V} (e : σ.set i (some v) = [a0, a1, a2, a3, a4, a5, a6]) (h : Q [a0, a1, a2, a3, a4, a5, a6] H) : gName i v σ H Q := by show Q (σ.set i (some v)) H; rw [e]; exact h
theorem gnm8 {i : Nat} {v : V} {σ : L2.St} {H : Hp} {Q : L2.St → Hp → Prop} {a0 a1 a2 a3 a4 a5 a6 a7 : Option V} (e : σ.set i (some v) = [a0, a1, a2, a3, a4, a5, a6, a7]) (h : Q [a0, a1, a2, a3, a4, a5, a6, a7] H) : gName i v σ H Q := by show Q (σ.set i (some v)) H; rw [e]; exact h
theorem gnm9 {i : Nat} {v : V} {σ : L2.St} {H : Hp} {Q : L2.St → Hp → Prop} {a0 a1 a2 a3 a4 a5 a6 a7 a8 : Option V} (e : σ.set i (some v) = [a0, a1, a2, a3, a4, a5, a6, a7, a8]) (h : Q [a0, a1, a2, a3, a4, a5, a6, a7, a8] H) : gName i v σ H Q := by show Q (σ.set i (some v)) H; rw [e]; exact h
theorem gnm10 {i : Nat} {v : V} {σ : L2.St} {H : Hp} {Q : L2.St → Hp → Prop} {a0 a1 a2 a3 a4 a5 a6 a7 a8 a9 : Option V} (e : σ.set i (some v) = [a0, a1, a2, a3, a4, a5, a6, a7, a8, a9]) (h : Q [a0, a1, a2, a3, a4, a5, a6, a7, a8, a9] H) : gName i v σ H Q := by show Q (σ.set i (some v)) H; rw [e]; exact h
theorem gnm11 {i : Nat} {v : V} {σ : L2.St} {H : Hp} {Q : L2.St → Hp → Prop} {a0 a1 a2 a3 a4 a5 a6 a7 a8 a9 a10 : Option V} (e : σ.set i (some v) = [a0, a1, a2, a3, a4, a5, a6, a7, a8, a9, a10]) (h : Q [a0, a1, a2, a3, a4, a5, a6, a7, a8, a9, a10] H) : gName i v σ H Q := by show Q (σ.set i (some v)) H; rw [e]; exact h
theorem gnm12 {i : Nat} {v : V} {σ : L2.St} {H : Hp} {Q : L2.St → Hp → Prop} {a0 a1 a2 a3 a4 a5 a6 a7 a8 a9 a10 a11 : Option V} (e : σ.set i (some v) = [a0, a1, a2, a3, a4, a5, a6, a7, a8, a9, a10, a11]) (h : Q [a0, a1, a2, a3, a4, a5, a6, a7, a8, a9, a10, a11] H) : gName i v σ H Q := by show Q (σ.set i (some v)) H; rw [e]; exact h
theorem gnm13 {i : Nat} {v : V} {σ : L2.St} {H : Hp} {Q : L2.St → Hp → Prop} {a0 a1 a2 a3 a4 a5 a6 a7 a8 a9 a10 a11 a12 : Option V} (e : σ.set i (some v) = [a0, a1, a2, a3, a4, a5, a6, a7, a8, a9, a10, a11, a12]) (h : Q [a0, a1, a2, a3, a4, a5, a6, a7, a8, a9, a10, a11, a12] H) : gName i v σ H Q := by show Q (σ.set i (some v)) H; rw [e]; exact h
theorem gnm14 {i : Nat} {v : V} {σ : L2.St} {H : Hp} {Q : L2.St → Hp → Prop} {a0 a1 a2 a3 a4 a5 a6 a7 a8 a9 a10 a11 a12 a13 : Option V} (e : σ.set i (some v) = [a0, a1, a2, a3, a4, a5, a6, a7, a8, a9, a10, a11, a12, a13]) (h : Q [a0, a1, a2, a3, a4, a5, a6, a7, a8, a9, a10, a11, a12, a13] H) : gName i v σ H Q := by show Q (σ.set i (some v)) H; rw [e]; exact h
theorem gnm15 {i : Nat} {v : V} {σ : L2.St} {H : Hp} {Q : L2.St → Hp → Prop} {a0 a1 a2 a3 a4 a5 a6 a7 a8 a9 a10 a11 a12 a13 a14 : Option V} (e : σ.set i (some v) = [a0, a1, a2, a3, a4, a5, a6, a7, a8, a9, a10, a11, a12, a13, a14]) (h : Q [a0, a1, a2, a3, a4, a5, a6, a7, a8, a9, a10, a11, a12, a13, a14] H) : gName i v σ H Q := by show Q (σ.set i (some v)) H; rw [e]; exact h
theorem gnm16 {i : Nat} {v : V} {σ : L2.St} {H : Hp} {Q : L2.St → Hp → Prop} {a0 a1 a2 a3 a4 a5 a6 a7 a8 a9 a10 a11 a12 a13 a14 a15 : Option V} (e : σ.set i (some v) = [a0, a1, a2, a3, a4, a5, a6, a7, a8, a9, a10, a11, a12, a13, a14, a15]) (h : Q [a0, a1, a2, a3, a4, a5, a6, a7, a8, a9, a10, a11, a12, a13, a14, a15] H) : gName i v σ H Q := by show Q (σ.set i (some v)) H; rw [e]; exact h
theorem gnm17 {i : Nat} {v : V} {σ : L2.St} {H : Hp} {Q : L2.St → Hp → Prop} {a0 a1 a2 a3 a4 a5 a6 a7 a8 a9 a10 a11 a12 a13 a14 a15 a16 : Option V} (e : σ.set i (some v) = [a0, a1, a2, a3, a4, a5, a6, a7, a8, a9, a10, a11, a12, a13, a14, a15, a16]) (h : Q [a0, a1, a2, a3, a4, a5, a6, a7, a8, a9, a10, a11, a12, a13, a14, a15, a16] H) : gName i v σ H Q := by show Q (σ.set i (some v)) H; rw [e]; exact h
theorem gnm18 {i : Nat} {v : V} {σ : L2.St} {H : Hp} {Q : L2.St → Hp → Prop} {a0 a1 a2 a3 a4 a5 a6 a7 a8 a9 a10 a11 a12 a13 a14 a15 a16 a17 : Option V} (e : σ.set i (some v) = [a0, a1, a2, a3, a4, a5, a6, a7, a8, a9, a10, a11, a12, a13, a14, a15, a16, a17]) (h : Q [a0, a1, a2, a3, a4, a5, a6, a7, a8, a9, a10, a11, a12, a13, a14, a15, a16, a17] H) : gName i v σ H Q := by show Q (σ.set i (some v)) H; rw [e]; exact h
theorem gnm19 {i : Nat} {v : V} {σ : L2.St} {H : Hp} {Q : L2.St → Hp → Prop} {a0 a1 a2 a3 a4 a5 a6 a7 a8 a9 a10 a11 a12 a13 a14 a15 a16 a17 a18 : Option V} (e : σ.set i (some v) = [a0, a1, a2, a3, a4, a5, a6, a7, a8, a9, a10, a11, a12, a13, a14, a15, a16, a17, a18]) (h : Q [a0, a1, a2, a3, a4, a5, a6, a7, a8, a9, a10, a11, a12, a13, a14, a15, a16, a17, a18] H) : gName i v σ H Q := by show Q (σ.set i (some v)) H; rw [e]; exact h
theorem gnm20 {i : Nat} {v : V} {σ : L2.St} {H : Hp} {Q : L2.St → Hp → Prop} {a0 a1 a2 a3 a4 a5 a6 a7 a8 a9 a10 a11 a12 a13 a14 a15 a16 a17 a18 a19 : Option V} (e : σ.set i (some v) = [a0, a1, a2, a3, a4, a5, a6, a7, a8, a9, a10, a11, a12, a13, a14, a15, a16, a17, a18, a19]) (h : Q [a0, a1, a2, a3, a4, a5, a6, a7, a8, a9, a10, a11, a12, a13, a14, a15, a16, a17, a18, a19] H) : gName i v σ H Q := by show Q (σ.set i (some v)) H; rw [e]; exact h
theorem gnm21 {i : Nat} {v : V} {σ : L2.St} {H : Hp} {Q : L2.St → Hp → Prop} {a0 a1 a2 a3 a4 a5 a6 a7 a8 a9 a10 a11 a12 a13 a14 a15 a16 a17 a18 a19 a20 : Option V} (e : σ.set i (some v) = [a0, a1, a2, a3, a4, a5, a6, a7, a8, a9, a10, a11, a12, a13, a14, a15, a16, a17, a18, a19, a20]) (h : Q [a0, a1, a2, a3, a4, a5, a6, a7, a8, a9, a10, a11, a12, a13, a14, a15, a16, a17, a18, a19, a20] H) : gName i v σ H Q := by show Q (σ.set i (some v)) H; rw [e]; exact h
theorem gnm22 {i : Nat} {v : V} {σ : L2.St} {H : Hp} {Q : L2.St → Hp → Prop} {a0 a1 a2 a3 a4 a5 a6 a7 a8 a9 a10 a11 a12 a13 a14 a15 a16 a17 a18 a19 a20 a21 : Option V} (e : σ.set i (some v) = [a0, a1, a2, a3, a4, a5, a6, a7, a8, a9, a10, a11, a12, a13, a14, a15, a16, a17, a18, a19, a20, a21]) (h : Q [a0, a1, a2, a3, a4, a5, a6, a7, a8, a9, a10, a11, a12, a13, a14, a15, a16, a17, a18, a19, a20, a21] H) : gName i v σ H Q := by show Q (σ.set i (some v)) H; rw [e]; exact h
theorem gnm23 {i : Nat} {v : V} {σ : L2.St} {H : Hp} {Q : L2.St → Hp → Prop} {a0 a1 a2 a3 a4 a5 a6 a7 a8 a9 a10 a11 a12 a13 a14 a15 a16 a17 a18 a19 a20 a21 a22 : Option V} (e : σ.set i (some v) = [a0, a1, a2, a3, a4, a5, a6, a7, a8, a9, a10, a11, a12, a13, a14, a15, a16, a17, a18, a19, a20, a21, a22]) (h : Q [a0, a1, a2, a3, a4, a5, a6, a7, a8, a9, a10, a11, a12, a13, a14, a15, a16, a17, a18, a19, a20, a21, a22] H) : gName i v σ H Q := by show Q (σ.set i (some v)) H; rw [e]; exact h
theorem gnm24 {i : Nat} {v : V} {σ : L2.St} {H : Hp} {Q : L2.St → Hp → Prop} {a0 a1 a2 a3 a4 a5 a6 a7 a8 a9 a10 a11 a12 a13 a14 a15 a16 a17 a18 a19 a20 a21 a22 a23 : Option V} (e : σ.set i (some v) = [a0, a1, a2, a3, a4, a5, a6, a7, a8, a9, a10, a11, a12, a13, a14, a15, a16, a17, a18, a19, a20, a21, a22, a23]) (h : Q [a0, a1, a2, a3, a4, a5, a6, a7, a8, a9, a10, a11, a12, a13, a14, a15, a16, a17, a18, a19, a20, a21, a22, a23] H) : gName i v σ H Q := by show Q (σ.set i (some v)) H; rw [e]; exact h
theorem gnm25 {i : Nat} {v : V} {σ : L2.St} {H : Hp} {Q : L2.St → Hp → Prop} {a0 a1 a2 a3 a4 a5 a6 a7 a8 a9 a10 a11 a12 a13 a14 a15 a16 a17 a18 a19 a20 a21 a22 a23 a24 : Option V} (e : σ.set i (some v) = [a0, a1, a2, a3, a4, a5, a6, a7, a8, a9, a10, a11, a12, a13, a14, a15, a16, a17, a18, a19, a20, a21, a22, a23, a24]) (h : Q [a0, a1, a2, a3, a4, a5, a6, a7, a8, a9, a10, a11, a12, a13, a14, a15, a16, a17, a18, a19, a20, a21, a22, a23, a24] H) : gName i v σ H Q := by show Q (σ.set i (some v)) H; rw [e]; exact h
theorem gnm26 {i : Nat} {v : V} {σ : L2.St} {H : Hp} {Q : L2.St → Hp → Prop} {a0 a1 a2 a3 a4 a5 a6 a7 a8 a9 a10 a11 a12 a13 a14 a15 a16 a17 a18 a19 a20 a21 a22 a23 a24 a25 : Option V} (e : σ.set i (some v) = [a0, a1, a2, a3, a4, a5, a6, a7, a8, a9, a10, a11, a12, a13, a14, a15, a16, a17, a18, a19, a20, a21, a22, a23, a24, a25]) (h : Q [a0, a1, a2, a3, a4, a5, a6, a7, a8, a9, a10, a11, a12, a13, a14, a15, a16, a17, a18, a19, a20, a21, a22, a23, a24, a25] H) : gName i v σ H Q := by show Q (σ.set i (some v)) H; rw [e]; exact h
/-- name = a constant, then the rest -/
theorem asgC {v : V} {i : Nat} {t : TS} {D : L2.Ends} {σ : L2.St} {H : Hp} (h : gName i v σ H (t D)) : tSeq (tAsg (tC v) (gName i)) t D σ H := h
/-! comprehensions whose elements are data -/
/-- what stood in G away from D stands in G'' -/
def Off (D : Addr) (G G'' : Hp) : Prop := ∀ b o, b ≠ D → G b = some o → G'' b = some o
theorem Off.refl (D : Addr) (G : Hp) : Off D G G := fun _ _ _ h => h
theorem Off.pre {D : Addr} {G G' G'' : Hp} (s : Same G G') (h : Off D G' G'') : Off D G G'' := fun b o n e => h b o n (s b o e)
theorem Off.put {D : Addr} {G G'' : Hp} {o : HO} (h : Off D (upd G D o) G'') : Off D G G'' := fun b u n e => h b u n (by rw [upd_ne n]; exact e)
theorem lcg {K : PySem.W.Frag} {J : It} {n : Nat} {Gd : Hp → Prop} {Y : Nat → Hp → V → Hp → Prop} (w : Walk J n Gd Y) {g : TG} {tt : TT} {te : TE} {vs : List Nat} {σ : L2.St} {H : Hp} {D : Addr} {Qd : Hp → Prop}
    (P : Nat → List PyData → Prop) (h0 : P 0 []) (hD : H D = none) (hG : ∀ G, Same H G → Gd G) (hn : n ≤ 90000)
    (hs : ∀ i x G G1 ds, i < n → Same H G → (∃ l, G D = some (.lst l)) → P i ds → Y i G x G1 → ∀ J : Option V → Hp → Prop, (∀ G', Same G G' → P (i + 1) ds → J none G') →
      (∀ y d G', Same G G' → (∀ G'', Same H G'' → Off D G' G'' → Dp K G'' y d) → P (i + 1) (ds ++ [d]) → J (some y) G') →
      g x (wipe σ vs) G1 fun σ2 H2 => wipe σ2 vs = wipe σ vs ∧ tt σ2 H2 fun b H3 => if b = true then te σ2 H3 fun y H4 => J (some y) H4 else J none H3)
    (k : ∀ H' ys ds, Same H H' → H' D = some (.lst ys) → DpAll K H' ys ds → P n ds → Qd H') :
    ∃ W : Nat → Nat → Hp → Prop, (∃ m, W 0 m (upd H D (.lst []))) ∧ ∀ i m H, W i m H →
      (J.stop i H ∧ Qd H) ∨ (J.go i H ∧ ∃ Nx : Hp → Prop, (∀ H', Nx H' → ∃ m', m' < m ∧ W (i + 1) m' H') ∧ ∀ x H', J.yld i H x H' → g x (wipe σ vs) H' fun σ2 H2 => wipe σ2 vs = wipe σ vs ∧ tt σ2 H2 fun b H3 =>
        if b = true then te σ2 H3 fun y H4 => ∃ acc, H4 D = some (.lst acc) ∧ acc.length < sizeLine ∧ Nx (upd H4 D (.lst (acc ++ [y]))) else Nx H3) := by
  refine lc_it w (fun i G => ∃ ys ds, Same H G ∧ G D = some (.lst ys) ∧ (∀ G'', Same H G'' → Off D G G'' → DpAll K G'' ys ds) ∧ P i ds ∧ ds.length ≤ i) ⟨[], [], same_upd hD, upd_same, fun _ _ _ => .nil, h0, Nat.le_refl _⟩ (fun i G _ h => hG G h.choose_spec.choose_spec.1) ?_ ?_
  · rintro i x G G1 hi ⟨ys, ds, s1, e1, h1, p1, l1⟩ hy
    have hl : ys.length = ds.length := dpa_len (h1 G s1 (Off.refl _ _))
    refine hs i x G G1 ds hi s1 ⟨ys, e1⟩ p1 hy (fun o G' => match o with
      | some y => ∃ acc, G' D = some (.lst acc) ∧ acc.length < sizeLine ∧ ∃ ys ds, Same H (upd G' D (.lst (acc ++ [y]))) ∧ (upd G' D (.lst (acc ++ [y]))) D = some (.lst ys) ∧ (∀ G'', Same H G'' → Off D (upd G' D (.lst (acc ++ [y]))) G'' → DpAll K G'' ys ds) ∧ P (i + 1) ds ∧ ds.length ≤ i + 1
      | none => ∃ ys ds, Same H G' ∧ G' D = some (.lst ys) ∧ (∀ G'', Same H G'' → Off D G' G'' → DpAll K G'' ys ds) ∧ P (i + 1) ds ∧ ds.length ≤ i + 1) ?_ ?_
    · exact fun G' s p => ⟨ys, ds, s1.trans s, s _ _ e1, fun G'' s2 o => h1 G'' s2 (Off.pre s o), p, by omega⟩
    · exact fun y d G' s hy p => ⟨ys, s _ _ e1, szl (by omega), ys ++ [y], ds ++ [d], same_put (s1.trans s) hD, upd_same, fun G'' s2 o => dpa_app (h1 G'' s2 (Off.pre s o.put)) (.cons (hy G'' s2 o.put) .nil), p, by rw [List.length_append]; simp only [List.length_cons, List.length_nil]; omega⟩
  · rintro G ⟨ys, ds, s1, e1, h1, p1, _⟩
    exact k G ys ds s1 e1 (h1 G s1 (Off.refl _ _)) p1
/-- over a list of data, each element by a function -/
theorem lcd {α : Type} {K : PySem.W.Frag} {g : TG} {tt : TT} {te : TE} {vs : List Nat} {σ : L2.St} {H : Hp} {D a : Addr} {Qd : Hp → Prop} {xs : List V} (es : List α) (pd : α → PyData) (f : α → Option PyData)
    (hD : H D = none) (hL : SqL K H a xs) (hx : DpAll K H xs (es.map pd)) (hn : es.length ≤ 90000)
    (hs : ∀ x e G, e ∈ es → Same H G → (∃ l, G D = some (.lst l)) → Dp K H x (pd e) → ∀ J : Option V → Hp → Prop, (∀ G', Same G G' → f e = none → J none G') →
      (∀ y d G', Same G G' → (∀ G'', Same H G'' → Off D G' G'' → Dp K G'' y d) → f e = some d → J (some y) G') →
      g x (wipe σ vs) G fun σ2 H2 => wipe σ2 vs = wipe σ vs ∧ tt σ2 H2 fun b H3 => if b = true then te σ2 H3 fun y H4 => J (some y) H4 else J none H3)
    (k : ∀ H' ys, Same H H' → H' D = some (.lst ys) → DpAll K H' ys (es.filterMap f) → Qd H') :
    ∃ W : Nat → Nat → Hp → Prop, (∃ m, W 0 m (upd H D (.lst []))) ∧ ∀ i m H, W i m H →
      ((Itl K a).stop i H ∧ Qd H) ∨ ((Itl K a).go i H ∧ ∃ Nx : Hp → Prop, (∀ H', Nx H' → ∃ m', m' < m ∧ W (i + 1) m' H') ∧ ∀ x H', (Itl K a).yld i H x H' → g x (wipe σ vs) H' fun σ2 H2 => wipe σ2 vs = wipe σ vs ∧ tt σ2 H2 fun b H3 =>
        if b = true then te σ2 H3 fun y H4 => ∃ acc, H4 D = some (.lst acc) ∧ acc.length < sizeLine ∧ Nx (upd H4 D (.lst (acc ++ [y]))) else Nx H3) := by
  have hl : xs.length = es.length := by have := dpa_len hx; rwa [List.length_map] at this
  refine lcg (K := K) (walk_list (K := K) (a := a) (xs := xs)) (fun i ds => ds = (es.take i).filterMap f) rfl hD (fun G s => s.seq hL) (by omega) ?_ ?_
  · rintro i x G G1 ds hi s1 hl1 rfl ⟨rfl, hxi⟩ J j1 j2
    have hi2 : i < es.length := by omega
    have he : es[i]? = some es[i] := List.getElem?_eq_getElem hi2
    obtain ⟨d, hd, hdp⟩ := dpa_at hx hxi
    rw [List.getElem?_map, he] at hd
    cases hd
    have ht : (es.take (i + 1)).filterMap f = (es.take i).filterMap f ++ (f es[i]).toList := by
      rw [take_more he, List.filterMap_append]
      cases e : f es[i] <;> simp [e]
    refine hs x es[i] G1 (List.getElem_mem hi2) s1 hl1 hdp J (fun G' s e => j1 G' s ?_) (fun y d G' s hy e => j2 y d G' s hy ?_)
    · rw [ht, e]; simp
    · rw [ht, e]; rfl
  · rintro H' ys ds s1 e1 h1 rfl
    rw [hl, List.take_length] at h1
    exact k H' ys s1 e1 h1
/-! data taken apart -/
theorem dp_tup {K : PySem.W.Frag} {H : Hp} {x : V} {ds : List PyData} (h : Dp K H x (.tuple ds)) : ∃ p vs, x = .ref p ∧ SqT K H p vs ∧ DpAll K H vs ds := by
  cases h with
  | tup h a => exact ⟨_, _, rfl, h, a⟩
theorem dp_str {K : PySem.W.Frag} {H : Hp} {x : V} {s : Str} (h : Dp K H x (.str s)) : x = .str s := by cases h; rfl
theorem dp_int {K : PySem.W.Frag} {H : Hp} {x : V} {i : Int} (h : Dp K H x (.int i)) : x = .int i := by cases h; rfl
theorem dp_bl {K : PySem.W.Frag} {H : Hp} {x : V} {i : Bool} (h : Dp K H x (.bool i)) : x = .bl i := by cases h; rfl
theorem dpa_nil {K : PySem.W.Frag} {H : Hp} {vs : List V} (h : DpAll K H vs []) : vs = [] := by cases h; rfl
theorem dpa_cons {K : PySem.W.Frag} {H : Hp} {vs : List V} {d : PyData} {ds : List PyData} (h : DpAll K H vs (d :: ds)) : ∃ v ws, vs = v :: ws ∧ Dp K H v d ∧ DpAll K H ws ds := by
  cases h with
  | cons h a => exact ⟨_, _, rfl, h, a⟩
theorem dpa_str {K : PySem.W.Frag} {H : Hp} {vs : List V} {s : Str} {ds : List PyData} (h : DpAll K H vs (.str s :: ds)) : ∃ ws, vs = .str s :: ws ∧ DpAll K H ws ds := by
  obtain ⟨v, ws, rfl, h1, h2⟩ := dpa_cons h
  exact ⟨ws, by rw [dp_str h1], h2⟩
theorem dpa_int {K : PySem.W.Frag} {H : Hp} {vs : List V} {s : Int} {ds : List PyData} (h : DpAll K H vs (.int s :: ds)) : ∃ ws, vs = .int s :: ws ∧ DpAll K H ws ds := by
  obtain ⟨v, ws, rfl, h1, h2⟩ := dpa_cons h
  exact ⟨ws, by rw [dp_int h1], h2⟩
theorem dpa_bl {K : PySem.W.Frag} {H : Hp} {vs : List V} {s : Bool} {ds : List PyData} (h : DpAll K H vs (.bool s :: ds)) : ∃ ws, vs = .bl s :: ws ∧ DpAll K H ws ds := by
  obtain ⟨v, ws, rfl, h1, h2⟩ := dpa_cons h
  exact ⟨ws, by rw [dp_bl h1], h2⟩
theorem fm_if {α β : Type} (p : α → Bool) (g : α → β) : ∀ l : List α, l.filterMap (fun e => if p e = true then some (g e) else none) = (l.filter p).map g
  | [] => rfl
  | a :: l => by
    have ih := fm_if p g l
    cases h : p a <;> simp [h, ih]
theorem dp_t1 {K : PySem.W.Frag} {H : Hp} {x : V} {d0 : PyData} (h : Dp K H x (.tuple [d0])) : ∃ p v0, x = .ref p ∧ SqT K H p [v0] ∧ Dp K H v0 d0 := by
  obtain ⟨p, vs, rfl, ht, h0⟩ := dp_tup h
  cases h0 with | cons g0 h1 =>
  cases h1
  exact ⟨p, _, rfl, ht, g0⟩
theorem dp_t2 {K : PySem.W.Frag} {H : Hp} {x : V} {d0 d1 : PyData} (h : Dp K H x (.tuple [d0, d1])) : ∃ p v0 v1, x = .ref p ∧ SqT K H p [v0, v1] ∧ Dp K H v0 d0 ∧ Dp K H v1 d1 := by
  obtain ⟨p, vs, rfl, ht, h0⟩ := dp_tup h
  cases h0 with | cons g0 h1 =>
  cases h1 with | cons g1 h2 =>
  cases h2
  exact ⟨p, _, _, rfl, ht, g0, g1⟩
theorem dp_t3 {K : PySem.W.Frag} {H : Hp} {x : V} {d0 d1 d2 : PyData} (h : Dp K H x (.tuple [d0, d1, d2])) : ∃ p v0 v1 v2, x = .ref p ∧ SqT K H p [v0, v1, v2] ∧ Dp K H v0 d0 ∧ Dp K H v1 d1 ∧ Dp K H v2 d2 := by
  obtain ⟨p, vs, rfl, ht, h0⟩ := dp_tup h
  cases h0 with | cons g0 h1 =>
  cases h1 with | cons g1 h2 =>
  cases h2 with | cons g2 h3 =>
  cases h3
  exact ⟨p, _, _, _, rfl, ht, g0, g1, g2⟩
theorem dp_t4 {K : PySem.W.Frag} {H : Hp} {x : V} {d0 d1 d2 d3 : PyData} (h : Dp K H x (.tuple [d0, d1, d2, d3])) : ∃ p v0 v1 v2 v3, x = .ref p ∧ SqT K H p [v0, v1, v2, v3] ∧ Dp K H v0 d0 ∧ Dp K H v1 d1 ∧ Dp K H v2 d2 ∧ Dp K H v3 d3 := by
  obtain ⟨p, vs, rfl, ht, h0⟩ := dp_tup h
  cases h0 with | cons g0 h1 =>
  cases h1 with | cons g1 h2 =>
  cases h2 with | cons g2 h3 =>
  cases h3 with | cons g3 h4 =>
  cases h4
  exact ⟨p, _, _, _, _, rfl, ht, g0, g1, g2, g3⟩
theorem dp_t5 {K : PySem.W.Frag} {H : Hp} {x : V} {d0 d1 d2 d3 d4 : PyData} (h : Dp K H x (.tuple [d0, d1, d2, d3, d4])) : ∃ p v0 v1 v2 v3 v4, x = .ref p ∧ SqT K H p [v0, v1, v2, v3, v4] ∧ Dp K H v0 d0 ∧ Dp K H v1 d1 ∧ Dp K H v2 d2 ∧ Dp K H v3 d3 ∧ Dp K H v4 d4 := by
  obtain ⟨p, vs, rfl, ht, h0⟩ := dp_tup h
  cases h0 with | cons g0 h1 =>
  cases h1 with | cons g1 h2 =>
  cases h2 with | cons g2 h3 =>
  cases h3 with | cons g3 h4 =>
  cases h4 with | cons g4 h5 =>
  cases h5
  exact ⟨p, _, _, _, _, _, rfl, ht, g0, g1, g2, g3, g4⟩
theorem dp_t6 {K : PySem.W.Frag} {H : Hp} {x : V} {d0 d1 d2 d3 d4 d5 : PyData} (h : Dp K H x (.tuple [d0, d1, d2, d3, d4, d5])) : ∃ p v0 v1 v2 v3 v4 v5, x = .ref p ∧ SqT K H p [v0, v1, v2, v3, v4, v5] ∧ Dp K H v0 d0 ∧ Dp K H v1 d1 ∧ Dp K H v2 d2 ∧ Dp K H v3 d3 ∧ Dp K H v4 d4 ∧ Dp K H v5 d5 := by
  obtain ⟨p, vs, rfl, ht, h0⟩ := dp_tup h
  cases h0 with | cons g0 h1 =>
  cases h1 with | cons g1 h2 =>
  cases h2 with | cons g2 h3 =>
  cases h3 with | cons g3 h4 =>
  cases h4 with | cons g4 h5 =>
  cases h5 with | cons g5 h6 =>
  cases h6
  exact ⟨p, _, _, _, _, _, _, rfl, ht, g0, g1, g2, g3, g4, g5⟩
theorem dp_t7 {K : PySem.W.Frag} {H : Hp} {x : V} {d0 d1 d2 d3 d4 d5 d6 : PyData} (h : Dp K H x (.tuple [d0, d1, d2, d3, d4, d5, d6])) : ∃ p v0 v1 v2 v3 v4 v5 v6, x = .ref p ∧ SqT K H p [v0, v1, v2, v3, v4, v5, v6] ∧ Dp K H v0 d0 ∧ Dp K H v1 d1 ∧ Dp K H v2 d2 ∧ Dp K H v3 d3 ∧ Dp K H v4 d4 ∧ Dp K H v5 d5 ∧ Dp K H v6 d6 := by
  obtain ⟨p, vs, rfl, ht, h0⟩ := dp_tup h
  cases h0 with | cons g0 h1 =>
  cases h1 with | cons g1 h2 =>
  cases h2 with | cons g2 h3 =>
  cases h3 with | cons g3 h4 =>
  cases h4 with | cons g4 h5 =>
  cases h5 with | cons g5 h6 =>
  cases h6 with | cons g6 h7 =>
  cases h7
  exact ⟨p, _, _, _, _, _, _, _, rfl, ht, g0, g1, g2, g3, g4, g5, g6⟩
theorem dp_t8 {K : PySem.W.Frag} {H : Hp} {x : V} {d0 d1 d2 d3 d4 d5 d6 d7 : PyData} (h : Dp K H x (.tuple [d0, d1, d2, d3, d4, d5, d6, d7])) : ∃ p v0 v1 v2 v3 v4 v5 v6 v7, x = .ref p ∧ SqT K H p [v0, v1, v2, v3, v4, v5, v6, v7] ∧ Dp K H v0 d0 ∧ Dp K H v1 d1 ∧ Dp K H v2 d2 ∧ Dp K H v3 d3 ∧ Dp K H v4 d4 ∧ Dp K H v5 d5 ∧ Dp K H v6 d6 ∧ Dp K H v7 d7 := by
  obtain ⟨p, vs, rfl, ht, h0⟩ := dp_tup h
  cases h0 with | cons g0 h1 =>
  cases h1 with | cons g1 h2 =>
  cases h2 with | cons g2 h3 =>
  cases h3 with | cons g3 h4 =>
  cases h4 with | cons g4 h5 =>
  cases h5 with | cons g5 h6 =>
  cases h6 with | cons g6 h7 =>
  cases h7 with | cons g7 h8 =>
  cases h8
  exact ⟨p, _, _, _, _, _, _, _, _, rfl, ht, g0, g1, g2, g3, g4, g5, g6, g7⟩
theorem dp_t9 {K : PySem.W.Frag} {H : Hp} {x : V} {d0 d1 d2 d3 d4 d5 d6 d7 d8 : PyData} (h : Dp K H x (.tuple [d0, d1, d2, d3, d4, d5, d6, d7, d8])) : ∃ p v0 v1 v2 v3 v4 v5 v6 v7 v8, x = .ref p ∧ SqT K H p [v0, v1, v2, v3, v4, v5, v6, v7, v8] ∧ Dp K H v0 d0 ∧ Dp K H v1 d1 ∧ Dp K H v2 d2 ∧ Dp K H v3 d3 ∧ Dp K H v4 d4 ∧ Dp K H v5 d5 ∧ Dp K H v6 d6 ∧ Dp K H v7 d7 ∧ Dp K H v8 d8 := by
  obtain ⟨p, vs, rfl, ht, h0⟩ := dp_tup h
  cases h0 with | cons g0 h1 =>
  cases h1 with | cons g1 h2 =>
  cases h2 with | cons g2 h3 =>
  cases h3 with | cons g3 h4 =>
  cases h4 with | cons g4 h5 =>
  cases h5 with | cons g5 h6 =>
  cases h6 with | cons g6 h7 =>
  cases h7 with | cons g7 h8 =>
  cases h8 with | cons g8 h9 =>
  cases h9
  exact ⟨p, _, _, _, _, _, _, _, _, _, rfl, ht, g0, g1, g2, g3, g4, g5, g6, g7, g8⟩
theorem tf_no {α : Type} {l : List α} {i : Nat} {x : α} {f : α → Bool} (h : l[i]? = some x) (hf : f x = false) : (l.take (i + 1)).filter f = (l.take i).filter f := by
  rw [take_filter f h, hf]
  simp
theorem tf_yes {α : Type} {l : List α} {i : Nat} {x : α} {f : α → Bool} (h : l[i]? = some x) (hf : f x = true) : ((l.take (i + 1)).filter f).length = ((l.take i).filter f).length + 1 := by
  rw [take_filter f h, hf]
  simp
theorem oneS {α β : Type} (f : α → Str) (g : α → β) : ∀ {l : List α} {r : α}, (l.map f).Nodup → r ∈ l → l.filterMap (fun e => if decide (V.str (f e) = V.str (f r)) = true then some (g e) else none) = [g r]
  | [], _, _, h => by cases h
  | x :: l, r, nd, h => by
    rw [List.map_cons] at nd
    obtain ⟨n1, n2⟩ := List.nodup_cons.mp nd
    rcases List.mem_cons.mp h with e | h
    · subst e
      have hn : l.filterMap (fun e => if decide (V.str (f e) = V.str (f r)) = true then some (g e) else none) = [] := by
        rw [List.filterMap_eq_nil_iff]
        intro a ha
        refine if_neg fun z => n1 ?_
        rw [decide_eq_true_iff] at z
        rw [← V.str.inj z]
        exact List.mem_map_of_mem ha
      rw [List.filterMap_cons, if_pos (decide_eq_true rfl), hn]
    · have hx : (if decide (V.str (f x) = V.str (f r)) = true then some (g x) else none) = none := by
        refine if_neg fun z => n1 ?_
        rw [decide_eq_true_iff] at z
        rw [V.str.inj z]
        exact List.mem_map_of_mem h
      rw [List.filterMap_cons, hx]
      exact oneS f g n2 h
theorem fm_some {α β : Type} (f : α → β) (l : List α) : l.filterMap (fun e => some (f e)) = l.map f := by rw [← List.filterMap_eq_map]; rfl
/-! the digits of a script's cell -/
def Digs : List Int → List Int → Prop
  | [], [] => True
  | d :: ds, z :: zs => (0 ≤ d ∧ d < z) ∧ Digs ds zs
  | _, _ => False
theorem digs_snoc : ∀ {ds zs : List Int} {d z : Int}, Digs ds zs → 0 ≤ d → d < z → Digs (ds ++ [d]) (zs ++ [z])
  | [], [], _, _, _, h0, h1 => ⟨⟨h0, h1⟩, trivial⟩
  | _ :: _, _ :: _, _, _, h, h0, h1 => ⟨h.1, digs_snoc h.2 h0 h1⟩
theorem digs_len : ∀ {ds zs : List Int}, Digs ds zs → ds.length = zs.length
  | [], [], _ => rfl
  | _ :: ds, _ :: zs, h => by rw [List.length_cons, List.length_cons, digs_len h.2]
theorem digs1 {ds : List Int} {z : Int} (h : Digs ds [z]) : ∃ d, ds = [d] ∧ 0 ≤ d ∧ d < z := by
  match ds, h with
  | [d], h => exact ⟨d, rfl, h.1.1, h.1.2⟩
  | _ :: _ :: _, h => exact h.2.elim
theorem digs2 {ds : List Int} {z y : Int} (h : Digs ds [z, y]) : ∃ d e, ds = [d, e] ∧ (0 ≤ d ∧ d < z) ∧ (0 ≤ e ∧ e < y) := by
  match ds, h with
  | d :: es, h => obtain ⟨e, rfl, h1⟩ := digs1 h.2; exact ⟨d, e, rfl, h.1, h1⟩
theorem digs3 {ds : List Int} {z y x : Int} (h : Digs ds [z, y, x]) : ∃ d e f, ds = [d, e, f] ∧ (0 ≤ d ∧ d < z) ∧ (0 ≤ e ∧ e < y) ∧ (0 ≤ f ∧ f < x) := by
  match ds, h with
  | d :: es, h => obtain ⟨e, f, rfl, h1⟩ := digs2 h.2; exact ⟨d, e, f, rfl, h.1, h1⟩
theorem digs4 {ds : List Int} {z y x w : Int} (h : Digs ds [z, y, x, w]) : ∃ d e f g, ds = [d, e, f, g] ∧ (0 ≤ d ∧ d < z) ∧ (0 ≤ e ∧ e < y) ∧ (0 ≤ f ∧ f < x) ∧ (0 ≤ g ∧ g < w) := by
  match ds, h with
  | d :: es, h => obtain ⟨e, f, g, rfl, h1⟩ := digs3 h.2; exact ⟨d, e, f, g, rfl, h.1, h1⟩
theorem digs5 {ds : List Int} {z y x w v : Int} (h : Digs ds [z, y, x, w, v]) : ∃ d e f g k, ds = [d, e, f, g, k] ∧ (0 ≤ d ∧ d < z) ∧ (0 ≤ e ∧ e < y) ∧ (0 ≤ f ∧ f < x) ∧ (0 ≤ g ∧ g < w) ∧ (0 ≤ k ∧ k < v) := by
  match ds, h with
  | d :: es, h => obtain ⟨e, f, g, k, rfl, h1⟩ := digs4 h.2; exact ⟨d, e, f, g, k, rfl, h.1, h1⟩
theorem digs6 {ds : List Int} {z y x w v u : Int} (h : Digs ds [z, y, x, w, v, u]) : ∃ d e f g k l, ds = [d, e, f, g, k, l] ∧ (0 ≤ d ∧ d < z) ∧ (0 ≤ e ∧ e < y) ∧ (0 ≤ f ∧ f < x) ∧ (0 ≤ g ∧ g < w) ∧ (0 ≤ k ∧ k < v) ∧ (0 ≤ l ∧ l < u) := by
  match ds, h with
  | d :: es, h => obtain ⟨e, f, g, k, l, rfl, h1⟩ := digs5 h.2; exact ⟨d, e, f, g, k, l, rfl, h.1, h1⟩
theorem digs8 {ds : List Int} {z y x w v u t s : Int} (h : Digs ds [z, y, x, w, v, u, t, s]) : ∃ d e f g k l m n, ds = [d, e, f, g, k, l, m, n] ∧ (0 ≤ d ∧ d < z) ∧ (0 ≤ e ∧ e < y) ∧ (0 ≤ f ∧ f < x) ∧ (0 ≤ g ∧ g < w) ∧ (0 ≤ k ∧ k < v) ∧ (0 ≤ l ∧ l < u) ∧ (0 ≤ m ∧ m < t) ∧ (0 ≤ n ∧ n < s) := by
  match ds, h with
  | d :: e :: es, h => obtain ⟨f, g, k, l, m, n, rfl, h1⟩ := digs6 h.2.2; exact ⟨d, e, f, g, k, l, m, n, rfl, h.1, h.2.1, h1⟩
def sp_num (K : PySem.W.Frag) : Sp := fun vs H Q _ => ∃ (a : Addr) (ns : List Int) (k : Int), vs = [.ref a, .int k] ∧ SqL K H a (ns.map V.int) ∧ (0 ≤ k ∧ k ≤ 10000) ∧ ∀ n : Int, 0 ≤ n → Q (.int n) H
def sp_digits (K : PySem.W.Frag) : Sp := fun vs H Q _ => ∃ (a b : Addr) (ns zs : List Int) (k : Int), vs = [.ref a, .int k, .ref b] ∧ SqL K H a (ns.map V.int) ∧ (0 ≤ k ∧ k ≤ 10000) ∧ SqL K H b (zs.map V.int) ∧ zs.length ≤ 1000 ∧ (∀ z ∈ zs, 0 < z ∧ z < 1073741824) ∧
  ∀ (p : Addr) (H' : Hp) (ds : List Int), H p = none → Same H H' → H' p = some (.lst (ds.map V.int)) → Digs ds zs → Q (.ref p) H'
section
variable {P : Program} {w : World} {K : PySem.W.Frag} {mg : Str → Option Value} {base : Heap}
theorem ok__law_number (T : TX K mg) : FnOk P w K mg base CX0 1 T.a__law_number T.d__law_number ["script", "k"] (sp_num K) := by
  refine T.F__law_number.ok sc__law_number (fun vs H Q E h => ?_) (fun cdv A outer s H vs Q E hr h => ?_)
  · obtain ⟨a, ns, k, rfl, _⟩ := h
    rfl
  · obtain ⟨a, ns, k, rfl, hS, hk, q⟩ := h
    refine ⟨_, (pss_cons (ps_set (i := 2) sc__law_number.nd rfl (Or.inl rfl) (pv 1))
      (C8.pss_cut (ps_if (pt_cmpR op_lt (pv 1) (pe_callB call_len_seq (by rfl) T.n_len PySem.boot_len (pa_cons (pv 0) pa_nil)) (nomark _)) (pss_one (ps_set (i := 2) sc__law_number.nd rfl (Or.inl rfl) (pe_ix ix_list (pv 0) (pv 1) (fun _ _ => rfl)))) pss_nil)
      (pss_cons (ps_if (PW.pt (pw_or (pt_cmpR op_ge (pv 2) (pe_op op_pow pe_int pe_int) (nomark _)) (pw_or1 (pt_cmpR op_lt (pv 2) pe_int (nomark _))))) (pss_one (ps_ret (pe_callB call_abs (by rfl) T.n_abs (by decide +kernel) (pa_cons (pv 2) pa_nil)))) pss_nil)
      (pss_one (ps_ret (pe_op op_mod (pe_callTy call_int1 (by rfl) T.n_int (by decide +kernel) (pa_cons (pe_op op_mul (pe_op op_mod (pe_callTy call_int1 (by rfl) T.n_int (by decide +kernel) (pa_cons (pe_op op_mul (pe_op op_add (pe_op op_add (pv 2) (pe_op op_mul pe_int (pv 1))) pe_int) pe_int) pa_nil)) pe_int) pe_int) pa_nil)) pe_int)))))), ?_⟩
    refine ⟨_, rfl, fun σ' G => H = G ∧ ∃ c : Int, σ' = [some (.ref a), some (.int k), some (.int c)], ?_, ?_⟩
    · refine ⟨.int k, rfl, .ref a, rfl, a, _, rfl, .inl hS, _, _, rfl, rfl, _, rfl, ifd (fun hc => ?_) (fun hc => ?_)⟩
      · rw [List.length_map] at hc
        obtain ⟨m, rfl⟩ := Int.eq_ofNat_of_zero_le hk.1
        have hg : ns[m]? = some ns[m] := List.getElem?_eq_getElem (by omega)
        exact ⟨_, rfl, _, rfl, a, _, _, _, rfl, rfl, hS, at_map hg, rfl, _, rfl⟩
      · exact ⟨rfl, _, rfl⟩
    rintro σ' _ ⟨rfl, c, rfl⟩
    refine ⟨_, rfl, _, _, rfl, rfl, ⟨by decide, by decide, by decide⟩, _, _, rfl, rfl, _, rfl, ifd (fun hb => ?_) (fun hb => ?_)⟩
    · refine ⟨_, rfl, _, rfl, q _ ?_⟩
      split <;> omega
    · refine ⟨_, rfl, _, _, rfl, rfl, _, rfl, ifd (fun hb2 => ?_) (fun hb2 => ?_)⟩
      · refine ⟨_, rfl, _, rfl, q _ ?_⟩
        split <;> omega
      · refine ⟨_, rfl, _, rfl, _, _, rfl, rfl, .inl ⟨by decide, by decide⟩, _, _, rfl, rfl, _, _, rfl, rfl, _, _, rfl, rfl, .inr ⟨by decide, by decide⟩, .inl ⟨_, rfl, _, _, rfl, rfl, (by show (0 : Int) < _; decide), _, _, rfl, rfl, .inr ⟨by decide, by decide⟩, .inl ⟨_, rfl, _, _, rfl, rfl, (by show (0 : Int) < _; decide), q _ (Int.emod_nonneg _ (by decide))⟩⟩⟩
theorem ok__law_digits (T : TX K mg) : FnOk P w K mg base CX0 2 T.a__law_digits T.d__law_digits ["script", "k", "sizes"] (sp_digits K) := by
  refine T.F__law_digits.ok sc__law_digits (fun vs H Q E h => ?_) (fun cdv A outer s H vs Q E hr h => ?_)
  · obtain ⟨a, b, ns, zs, k, rfl, _⟩ := h
    rfl
  · obtain ⟨a, b, ns, zs, k, rfl, hS, hk, hB, hzl, hz, q⟩ := h
    refine ⟨_, (pss_cons (ps_set (i := 3) sc__law_digits.nd rfl (Or.inl rfl) (pe_call (ok__law_number T) (hr.mono (by decide)) (by rfl) T.g__law_number T.F__law_number.kp T.b__law_number .nil pass0 (pa_cons (pv 0) (pa_cons (pv 1) pa_nil))))
      (pss_cons (ps_set (i := 4) sc__law_digits.nd rfl (Or.inl rfl) (pe_lst pa_nil))
      (pss_cons (ps_for PassesOwn.never rfl (pi_list (pv 2)) (pg_name (i := 5) sc__law_digits.nd rfl (Or.inl rfl))
        (pss_cons (ps_expr (pe_bm PySem.F.plainAttrs_list PySem.F.slot_list_append PySem.F.type_list_append mt_append (pv 4) (pa_cons (pe_op op_mod (pe_callTy call_int1 (by rfl) T.n_int (by decide +kernel) (pa_cons (pv 3) pa_nil)) (pv 5)) pa_nil)))
        (pss_one (ps_set (i := 3) sc__law_digits.nd rfl (Or.inl rfl) (pe_op op_fdiv (pe_callTy call_int1 (by rfl) T.n_int (by decide +kernel) (pa_cons (pv 3) pa_nil)) (pv 5))))))
      (pss_one (ps_ret (pv 4)))))), ?_⟩
    refine ⟨_, rfl, _, rfl, a, ns, k, rfl, hS, hk, fun n hn => ?_⟩
    refine ⟨Nat.zero_le _, fun o ho => ?_⟩
    have s1 := same_upd (o := .lst []) ho
    refine ⟨_, rfl, b, rfl, ⟨_, s1.seq hB⟩, for_list (K := K) (a := b) (xs := zs.map V.int) (fun i σ H2 => ∃ (n : Int) (ds : List Int) (x5 : Option V), 0 ≤ n ∧ σ = [some (.ref a), some (.int k), some (.ref b), some (.int n), some (.ref o), x5] ∧ Same H H2 ∧ H2 o = some (.lst (ds.map V.int)) ∧ Digs ds (zs.take i))
      ⟨n, [], none, hn, rfl, s1, upd_same, trivial⟩ (fun i σ H2 _ ⟨_, _, _, _, _, h, _⟩ => h.seq hB) ?_ ?_⟩
    · rintro i x σ H2 hx ⟨n, ds, x5, hn, rfl, g1, g2, g3⟩
      obtain ⟨z, hzi, rfl⟩ := map_at hx
      have z0 := hz z (List.mem_of_getElem? hzi)
      have hl := digs_len g3
      rw [List.length_take] at hl
      refine ⟨_, rfl, .inl ⟨rfl, _, sql g2⟩, _, rfl, .inl ⟨_, rfl, _, rfl, _, _, rfl, rfl, z0.1, o, _, _, rfl, rfl, g2, szl (by rw [List.length_map]; omega), ?_⟩⟩
      refine ⟨_, rfl, .inl ⟨_, rfl, _, rfl, _, _, rfl, rfl, z0, ?_⟩⟩
      refine ⟨n / z, ds ++ [n % z], _, Int.ediv_nonneg hn (by omega), rfl, same_put g1 ho, ?_, ?_⟩
      · rw [upd_same, List.map_append]
        rfl
      · rw [take_more hzi]
        exact digs_snoc g3 (Int.emod_nonneg _ (by omega)) (Int.emod_lt_of_pos _ z0.1)
    · rintro σ H2 ⟨n, ds, x5, hn, rfl, g1, g2, g3⟩
      rw [List.length_map, List.take_length] at g3
      exact ⟨_, rfl, q o _ ds ho g1 g2 g3⟩
end
/-! texts of numbers, items of written lists -/
theorem slen_app (a b : Str) : (a ++ b).length = a.length + b.length := by
  show (a.cps ++ b.cps).size = a.cps.size + b.cps.size
  rw [Array.size_append]
theorem strN_len : ∀ n : Nat, n < 1101 → (Str.ofString (toString (n : Int))).length ≤ 8 := by decide +kernel
theorem strN_log : ∀ n : Nat, n < 1101 → ((n : Int).natAbs).log2 < 1920 := by decide +kernel
theorem strI {i : Int} (h : 0 ≤ i ∧ i ≤ 1100) : i.natAbs.log2 < 1920 ∧ (Str.ofString (toString i)).length ≤ 8 := by
  obtain ⟨n, rfl⟩ := Int.eq_ofNat_of_zero_le h.1
  exact ⟨strN_log n (by omega), strN_len n (by omega)⟩
theorem at_strs {zs : List Str} {i : Int} (h0 : 0 ≤ i) (h1 : i < zs.length) : ∃ z, z ∈ zs ∧ atI (zs.map V.str) i = some (.str z) := by
  obtain ⟨n, rfl⟩ := Int.eq_ofNat_of_zero_le h0
  have hn : n < zs.length := by omega
  exact ⟨zs[n], List.getElem_mem hn, at_map (List.getElem?_eq_getElem hn)⟩
theorem strX {a b : Str} (h : a.cps.toList = b.cps.toList) : a = b := by
  cases a; cases b
  simp only [Str.mk.injEq]
  exact Array.toList_inj.mp h
theorem ok_app (a b : Str) : PyData.strOk (a ++ b) = (PyData.strOk a && PyData.strOk b) := by
  show (a.cps ++ b.cps).all _ = _
  rw [Array.all_append]
  rfl
theorem ok_num : ∀ n : Nat, n < 111 → PyData.strOk (Str.ofString (toString (n : Int))) = true := by decide +kernel
theorem ok_numI {i : Int} (h : 0 ≤ i ∧ i ≤ 110) : PyData.strOk (Str.ofString (toString i)) = true := by
  obtain ⟨n, rfl⟩ := Int.eq_ofNat_of_zero_le h.1
  exact ok_num n (by omega)
theorem app_list (a b : Str) : (a ++ b).cps.toList = a.cps.toList ++ b.cps.toList := by
  show (a.cps ++ b.cps).toList = _
  rw [Array.toList_append]
/-! dicts whose keys are texts: what they hold, as a function -/
def isTxt (z : Str) : Value → Bool
  | .str y _ => y == z
  | _ => false
theorem vals_get : ∀ {xs : List V} {us : List Value} {i : Nat} {x : V}, Vals xs us → xs[i]? = some x → ∃ u, us[i]? = some u ∧ RelV x u
  | _, _, _, _, .nil, h => by simp at h
  | _, _, 0, _, .cons r _, h => ⟨_, rfl, by cases h; exact r⟩
  | _, _, i + 1, _, .cons _ t, h => by
    obtain ⟨u, e, r⟩ := vals_get (i := i) t (by simpa using h)
    exact ⟨u, by simpa using e, r⟩
theorem vals_drop : ∀ {xs : List V} {us : List Value} (i : Nat), Vals xs us → Vals (xs.eraseIdx i) (us.eraseIdx i)
  | _, _, _, .nil => .nil
  | _, _, 0, .cons _ t => t
  | _, _, i + 1, .cons r t => .cons r (vals_drop i t)
theorem txt_gives {z : Str} {t : Tok} : ∀ {zs : List Str} {us : List Value}, Vals (zs.map V.str) us → ∀ u ∈ us, MeetsSeq.EqGives u (.str z t) (isTxt z u)
  | [], _, .nil, _, h => by cases h
  | y :: zs, _, .cons r tl, u, h => by
    rcases List.mem_cons.mp h with e | e
    · obtain ⟨k, rfl⟩ := r
      subst e
      exact eqGives_str y z k t
    · exact txt_gives tl u e
theorem erase_str : ∀ (l : List Str) (j : Nat), (l.map V.str).eraseIdx j = (l.eraseIdx j).map V.str
  | [], _ => rfl
  | _ :: _, 0 => rfl
  | y :: l, j + 1 => congrArg (V.str y :: ·) (erase_str l j)
def rRemS : V → List V → Hp → VK → Prop := fun x as H Q => ∃ (l : Addr) (zs : List Str) (z : Str), x = .ref l ∧ as = [.str z] ∧ H l = some (.lst (zs.map V.str)) ∧ z ∈ zs ∧ Q .non (upd H l (.lst ((zs.erase z).map V.str)))
theorem mt_removeS {X : Cx} : MtR X "list.remove" rRemS := by
  intro pins s σ H x as v us Q I rx ra ⟨l, zs, z, e1, e2, hH, hz, q⟩
  subst e1; subst e2
  cases rx
  obtain ⟨u, rfl, t, rfl⟩ := ra.one
  obtain ⟨hn, its, n, r, hl, e⟩ := I.lstM hH
  rw [List.length_map] at hl hn
  have hj : zs.idxOf z < zs.length := List.idxOf_lt_length_iff.mpr hz
  have hg : zs[zs.idxOf z]? = some z := by rw [List.getElem?_eq_getElem hj, List.getElem_idxOf]
  have at_ : ∀ (m : Nat) (y : Str) (hm : m < its.toArray.size), zs[m]? = some y → isTxt z its.toArray[m] = (y == z) := fun m y hm hy => by
    obtain ⟨u, hu, k, rfl⟩ := vals_get r (show (zs.map V.str)[m]? = some (.str y) by rw [List.getElem?_map, hy]; rfl)
    obtain ⟨h1, h2⟩ := List.getElem?_eq_some_iff.mp hu
    have h3 : its.toArray[m] = .str y k := by simpa using h2
    rw [h3]
    rfl
  have hjl : zs.idxOf z < its.toArray.size := by rw [List.size_toArray]; omega
  have run := MeetsSeq.list_remove l its.toArray n (.str z t) (isTxt z) (fun y hy => txt_gives r y (by simpa using hy)) (zs.idxOf z) hjl (by rw [at_ _ _ hjl hg]; exact beq_self_eq_true z) (fun m hm hmj => by
    have hmz : m < zs.length := by omega
    rw [at_ m _ hm (List.getElem?_eq_getElem hmz)]
    exact beq_eq_false_iff_ne.mpr fun h2 => by
      have h3 := List.not_of_lt_findIdx (xs := zs) (p := fun y => y == z) (i := m) hmj
      simp [h2] at h3) (by rw [List.size_toArray]; omega)
  refine call_meets PySem.F.slot_list_remove ⟨_, e, rfl⟩ PySem.F.entry_list_remove (PySem.F.args_list_remove_2 _ _) run ⟨e, ?_⟩
  have hE : (zs.map V.str).eraseIdx (zs.idxOf z) = (zs.erase z).map V.str := by
    rw [List.erase_eq_eraseIdx_of_idxOf (i := zs.idxOf z) rfl]
    exact erase_str zs _
  have rr := vals_drop (zs.idxOf z) r
  rw [hE] at rr
  refine ⟨.non, _, I.lset (its' := its.eraseIdx (zs.idxOf z)) (t' := s.toks) hH e ?_ rr ?_, rfl, q⟩
  · exact (List.eraseIdxIfInBounds_toArray ..).trans rfl
  · rw [List.length_map]
    exact Nat.le_trans (List.length_erase_le ..) hn
/-- x *= y, x from -2^64 to 2^64 -/
theorem ip_mul {X : Cx} : PIp X .Mult (fun x y H Q => ∃ i j : Int, x = .int i ∧ y = .int j ∧ (-(2 ^ 64) < i ∧ i < 2 ^ 64) ∧ Q (.int (i * j)) H) := by
  intro pins s σ H x y v u Q I r1 r2 ⟨i, j, e1, e2, ⟨h1, h2⟩, q⟩
  subst e1; subst e2
  obtain ⟨t, rfl⟩ := r1
  obtain ⟨t', rfl⟩ := r2
  exact imul_int ⟨.int _, H, I.tok _, ⟨_, rfl⟩, q⟩ (.of_left (intBits_le_64 h1 h2))
theorem nd_len {α : Type} [DecidableEq α] : ∀ {l U : List α}, l.Nodup → (∀ x ∈ l, x ∈ U) → l.length ≤ U.length
  | [], _, _, _ => Nat.zero_le _
  | a :: l, U, nd, h => by
    have ha := h a List.mem_cons_self
    have n2 := List.nodup_cons.mp nd
    have := nd_len (l := l) (U := U.erase a) n2.2 fun x hx => (List.mem_erase_of_ne (fun z => n2.1 (by rw [← z]; exact hx))).mpr (h x (List.mem_cons_of_mem _ hx))
    rw [List.length_erase_of_mem ha] at this
    have h0 : 0 < U.length := List.length_pos_of_mem ha
    simp only [List.length_cons]
    omega
structure DS {α : Type} (U : List Str) (g : α → V) (kvs : List (Key × V)) (f : Str → Option α) : Prop where
  nd : (kvs.map (·.1)).Nodup
  ks : ∀ kv ∈ kvs, ∃ s ∈ U, kv.1 = Sum.inr s
  vl : ∀ s, valV kvs (Sum.inr s) = (f s).map g
def keyS : Key → Str
  | .inr s => s
  | _ => ""
section
variable {α : Type} {U : List Str} {g : α → V} {kvs : List (Key × V)} {f : Str → Option α}
def setF (f : Str → Option α) (k : Str) (v : α) : Str → Option α := fun s => if s = k then some v else f s
def unsF (f : Str → Option α) (k : Str) : Str → Option α := fun s => if s = k then none else f s
theorem ds_nil : DS U g [] fun _ => none := ⟨List.nodup_nil, (fun _ h => by cases h), fun _ => rfl⟩
theorem keys_map (h : DS U g kvs f) : kvs.map (·.1) = (kvs.map fun kv => keyS kv.1).map Sum.inr := by
  rw [List.map_map]
  apply List.map_congr_left
  intro kv hm
  obtain ⟨s, _, e⟩ := h.ks kv hm
  show kv.1 = Sum.inr (keyS kv.1)
  rw [e]
  rfl
theorem keys_nd (h : DS U g kvs f) : (kvs.map fun kv => keyS kv.1).Nodup := by
  have := h.nd
  rw [keys_map h] at this
  exact List.Pairwise.of_map Sum.inr (fun a b hab z => hab (by rw [z])) this
theorem keys_in (h : DS U g kvs f) : ∀ s ∈ (kvs.map fun kv => keyS kv.1), s ∈ U := fun s hs => by
  obtain ⟨kv, hm, rfl⟩ := List.mem_map.mp hs
  obtain ⟨s, hu, e⟩ := h.ks kv hm
  rw [e]
  exact hu
theorem ds_len (h : DS U g kvs f) : kvs.length ≤ U.length := by
  have := nd_len (keys_nd h) (keys_in h)
  rwa [List.length_map] at this
theorem key_iff (h : DS U g kvs f) (s : Str) : s ∈ (kvs.map fun kv => keyS kv.1) ↔ (f s).isSome = true := by
  have e : (valV kvs (Sum.inr s)).isSome = (f s).isSome := by rw [h.vl]; cases f s <;> rfl
  rw [← e, ← valV_any]
  constructor
  · intro hs
    obtain ⟨kv, hm, rfl⟩ := List.mem_map.mp hs
    obtain ⟨s, _, e⟩ := h.ks kv hm
    exact List.any_eq_true.mpr ⟨kv, hm, by rw [e]; simp [keyS]⟩
  · intro hs
    obtain ⟨kv, hm, e⟩ := List.any_eq_true.mp hs
    exact List.mem_map.mpr ⟨kv, hm, by rw [of_decide_eq_true e]; rfl⟩
theorem ds_put (h : DS U g kvs f) {k : Str} (hk : k ∈ U) (v : α) : DS U g (putK kvs (Sum.inr k) (g v)) (setF f k v) := by
  refine ⟨?_, ?_, fun s => ?_⟩
  · unfold putK
    split
    · rw [List.map_map]
      have : ((fun x => x.1) ∘ fun kv : Key × V => if kv.1 = Sum.inr k then (kv.1, g v) else kv) = fun x => x.1 := by
        funext kv
        simp only [Function.comp]
        split <;> rfl
      rw [this]
      exact h.nd
    · next hn =>
      rw [List.map_append]
      refine List.nodup_append.mpr ⟨h.nd, by simp, fun x hx y hy z => hn ?_⟩
      simp only [List.map_cons, List.map_nil, List.mem_cons, List.not_mem_nil, or_false] at hy
      obtain ⟨kv, hm, e⟩ := List.mem_map.mp hx
      exact List.any_eq_true.mpr ⟨kv, hm, decide_eq_true (by rw [e, z, hy])⟩
  · intro kv hm
    unfold putK at hm
    split at hm
    · obtain ⟨kv', hm', e⟩ := List.mem_map.mp hm
      obtain ⟨s, hu, e'⟩ := h.ks kv' hm'
      refine ⟨s, hu, ?_⟩
      rw [← e]
      split <;> exact e'
    · rcases List.mem_append.mp hm with hm | hm
      · exact h.ks kv hm
      · rw [List.mem_singleton] at hm
        exact ⟨k, hk, by rw [hm]⟩
  · rw [valV_put]
    unfold setF
    by_cases e : s = k
    · rw [e, if_pos rfl, if_pos rfl]
      rfl
    · rw [if_neg (fun z => e (Sum.inr.inj z)), if_neg e]
      exact h.vl s
theorem val_drop (k j : Key) : ∀ kvs : List (Key × V), valV (dropK kvs k) j = if j = k then none else valV kvs j
  | [] => by simp [dropK, valV_nil]
  | p :: r => by
    have ih := val_drop k j r
    unfold dropK at ih ⊢
    rw [List.filter_cons]
    by_cases hp : p.1 = k
    · rw [if_neg (by simp [hp]), ih]
      split
      · rfl
      · next hj => rw [valV_neg (fun z => hj (by rw [← z, hp]))]
    · rw [if_pos (by simp [hp])]
      by_cases hj : p.1 = j
      · rw [valV_pos hj, valV_pos hj, if_neg (fun z => hp (by rw [hj, z]))]
      · rw [valV_neg hj, valV_neg hj, ih]
theorem ds_drop (h : DS U g kvs f) (k : Str) : DS U g (dropK kvs (Sum.inr k)) (unsF f k) := by
  refine ⟨(List.filter_sublist.map _).nodup h.nd, fun kv hm => h.ks kv (List.mem_filter.mp hm).1, fun s => ?_⟩
  rw [val_drop]
  unfold unsF
  by_cases e : s = k
  · rw [e, if_pos rfl, if_pos rfl]
    rfl
  · rw [if_neg (fun z => e (Sum.inr.inj z)), if_neg e]
    exact h.vl s
end
theorem inV_str (k : Str) : ∀ zs : List Str, inV (.str k) (zs.map V.str) = decide (k ∈ zs)
  | [] => rfl
  | z :: zs => by
    have ih := inV_str k zs
    unfold inV at ih ⊢
    rw [List.map_cons, List.any_cons, ih]
    show ((z == k) || decide (k ∈ zs)) = decide (k ∈ z :: zs)
    by_cases e : k = z
    · subst e
      rw [beq_self_eq_true, Bool.true_or, decide_eq_true List.mem_cons_self]
    · rw [beq_eq_false_iff_ne.mpr (Ne.symm e), Bool.false_or, Bool.eq_iff_iff, decide_eq_true_iff, decide_eq_true_iff, List.mem_cons]
      exact ⟨.inr, fun h => h.resolve_left e⟩
theorem flat_strs : ∀ zs : List Str, (zs.map V.str).all flatV = true
  | [] => rfl
  | _ :: zs => flat_strs zs
def DAt {α : Type} (U : List Str) (g : α → V) (H : Hp) (d : Addr) (f : Str → Option α) : Prop := ∃ kvs, H d = some (.dK kvs) ∧ DS U g kvs f
/-- all but these stand as they stood -/
def Fr (L : List Addr) (H H' : Hp) : Prop := ∀ x o, H x = some o → x ∉ L → H' x = some o
theorem Fr.refl (L : List Addr) (H : Hp) : Fr L H H := fun _ _ h _ => h
theorem Fr.trans {L : List Addr} {H H' H2 : Hp} (h : Fr L H H') (g : Fr L H' H2) : Fr L H H2 := fun x o e n => g x o (h x o e n) n
theorem Fr.of_same {L : List Addr} {H H' : Hp} (h : Same H H') : Fr L H H' := fun x o e _ => h x o e
theorem Fr.up {L : List Addr} {H H' : Hp} {a : Addr} {o : HO} (h : Fr L H H') (ha : a ∈ L) : Fr L H (upd H' a o) := fun x u e n => by
  rw [upd_ne (fun z => n (by rw [z]; exact ha))]
  exact h x u e n
theorem DAt.same {α : Type} {U : List Str} {g : α → V} {H H' : Hp} {d : Addr} {f : Str → Option α} (h : DAt U g H d f) (s : Same H H') : DAt U g H' d f := by
  obtain ⟨kvs, e, r⟩ := h
  exact ⟨kvs, s _ _ e, r⟩
/-- the names that stand in a dict, in order -/
def Ord (f : Str → Bool) (ys : List Str) : Prop := ys.Nodup ∧ sortedS ys = true ∧ ∀ s, s ∈ ys ↔ f s = true
theorem setF_same {α : Type} (f : Str → Option α) (k : Str) (v : α) : setF f k v k = some v := if_pos rfl
theorem setF_ne {α : Type} {f : Str → Option α} {k x : Str} {v : α} (h : x ≠ k) : setF f k v x = f x := if_neg h
theorem unsF_same {α : Type} (f : Str → Option α) (k : Str) : unsF f k k = none := if_pos rfl
theorem unsF_ne {α : Type} {f : Str → Option α} {k x : Str} (h : x ≠ k) : unsF f k x = f x := if_neg h
theorem unsF_none {α : Type} {f : Str → Option α} {k : Str} (h : f k = none) : unsF f k = f := by
  funext s
  unfold unsF
  split
  · next e => rw [e, h]
  · rfl
theorem putF_le {f : Str} {v : V} {fs : List (Str × V)} {n : Nat} (h : fs.length ≤ n) : (putF f v fs).length ≤ n + 1 := by
  induction fs generalizing n with
  | nil => simp [putF]
  | cons p r ih =>
    unfold putF
    split
    · simp only [List.length_cons] at h ⊢
      omega
    · simp only [List.length_cons] at h ⊢
      have := ih (n := n - 1) (by omega)
      omega
theorem putF_lt {fs : List (Str × V)} {n : Nat} (h : fs.length ≤ n) (g : n < 1000) : fs.length < 1000 := by omega
/-! texts in order -/
def leS (x y : Str) : Prop := x.cps.toList ≤ y.cps.toList
theorem leS_of {x y : Str} (h : Spec.ltCps y.cps.toList x.cps.toList = false) : leS x y := by
  rw [ltCps_eq, decide_eq_false_iff_not] at h
  exact List.not_lt.mp h
theorem leS_trans {x y z : Str} (h : leS x y) (g : leS y z) : leS x z := List.le_trans h g
theorem str_ext2 {a b : Str} (h : a.cps.toList = b.cps.toList) : a = b := by
  cases a; cases b
  simp only [Str.mk.injEq]
  exact Array.toList_inj.mp h
theorem rising_pw : ∀ {l : List Str} {p : Str}, risingS p l = true → (p :: l).Pairwise leS
  | [], p, _ => List.pairwise_singleton _ _
  | x :: r, p, h => by
    unfold risingS at h
    rw [Bool.and_eq_true, Bool.not_eq_true'] at h
    have h1 := leS_of h.1
    have ih := rising_pw (l := r) (p := x) h.2
    refine List.pairwise_cons.mpr ⟨fun y hy => ?_, ih⟩
    rcases List.mem_cons.mp hy with e | hy
    · rw [e]; exact h1
    · exact leS_trans h1 ((List.pairwise_cons.mp ih).1 y hy)
theorem sorted_pw : ∀ {l : List Str}, sortedS l = true → l.Pairwise leS
  | [], _ => .nil
  | _ :: _, h => rising_pw h
theorem pw_uniq {a b : List Str} (h : a.Pairwise leS) (g : b.Pairwise leS) (p : a.Perm b) : a = b :=
  p.eq_of_pairwise (fun x y _ _ h1 h2 => str_ext2 (List.le_antisymm h1 h2)) h g
theorem nd_perm {a b : List Str} (na : a.Nodup) (nb : b.Nodup) (h : ∀ x, x ∈ a ↔ x ∈ b) : a.Perm b := (List.perm_ext_iff_of_nodup na nb).mpr h
theorem ord_uniq {f : Str → Bool} {a b : List Str} (h : Ord f a) (g : Ord f b) : a = b :=
  pw_uniq (sorted_pw h.2.1) (sorted_pw g.2.1) (nd_perm h.1 g.1 fun x => by rw [h.2.2, g.2.2])
/-- what is no list and no tuple -/
def NoSeq (H : Hp) (L : List Addr) : Prop := ∀ x ∈ L, ∀ u, Rd H x u → (∀ xs, u ≠ .lst xs) ∧ ∀ xs, u ≠ .tup xs
theorem sql_fr {K : PySem.W.Frag} {L : List Addr} {H H' : Hp} {a : Addr} {xs : List V} (n : NoSeq H L) (f : Fr L H H') (h : SqL K H a xs) : SqL K H' a xs := by
  rcases h with (h | ⟨o, h⟩) | h
  · exact .inl (.inl (f _ _ h fun z => (n a z _ (.inl h)).1 xs rfl))
  · exact .inl (.inr ⟨o, f _ _ h fun z => (n a z _ (.inr ⟨o, h⟩)).1 xs rfl⟩)
  · exact .inr h
theorem sqt_fr {K : PySem.W.Frag} {L : List Addr} {H H' : Hp} {a : Addr} {xs : List V} (n : NoSeq H L) (f : Fr L H H') (h : SqT K H a xs) : SqT K H' a xs := by
  rcases h with (h | ⟨o, h⟩) | h
  · exact .inl (.inl (f _ _ h fun z => (n a z _ (.inl h)).2 xs rfl))
  · exact .inl (.inr ⟨o, f _ _ h fun z => (n a z _ (.inr ⟨o, h⟩)).2 xs rfl⟩)
  · exact .inr h
mutual
theorem dp_fr {K : PySem.W.Frag} {L : List Addr} {H H' : Hp} (n : NoSeq H L) (f : Fr L H H') : ∀ (d : PyData) {v : V}, Dp K H v d → Dp K H' v d
  | _, _, .non => .non
  | _, _, .bl b => .bl b
  | _, _, .int i => .int i
  | _, _, .str x => .str x
  | .list ds, _, .lst h a => .lst (sql_fr n f h) (dpa_fr n f ds a)
  | .tuple ds, _, .tup h a => .tup (sqt_fr n f h) (dpa_fr n f ds a)
theorem dpa_fr {K : PySem.W.Frag} {L : List Addr} {H H' : Hp} (n : NoSeq H L) (f : Fr L H H') : ∀ (ds : List PyData) {vs : List V}, DpAll K H vs ds → DpAll K H' vs ds
  | [], _, .nil => .nil
  | d :: ds, _, .cons h a => .cons (dp_fr n f d h) (dpa_fr n f ds a)
end
/-! the runs; the restarts -/
abbrev IM := Str → Option Int
def U4 : List Str := [Str.ofString "web/0", Str.ofString "web/1", Str.ofString "db/0", Str.ofString "a/9"]
theorem u4_len : U4.length ≤ 4 := by decide +kernel
theorem dat_none {H : Hp} {d : Addr} {f : IM} {kvs : List (Key × V)} {k : Str} (h : DS U4 V.int kvs f) (hv : valV kvs (Sum.inr k) = none) : unsF f k = f := by
  refine unsF_none ?_
  have := h.vl k
  rw [hv] at this
  cases e : f k with
  | none => rfl
  | some x => rw [e] at this; cases this
structure RAt (C : Addr) (H : Hp) (p ab : Addr) (f : IM) : Prop where
  ob : ∃ dx, H p = some (.ins C dx (fl_Runs (.ref ab)))
  hb : DAt U4 V.int H ab f
theorem RAt.same {C : Addr} {H H' : Hp} {p ab : Addr} {f : IM} (h : RAt C H p ab f) (s : Same H H') : RAt C H' p ab f := by
  obtain ⟨dx, ob⟩ := h.ob
  exact ⟨⟨dx, s _ _ ob⟩, h.hb.same s⟩
theorem RAt.frame {C : Addr} {H H' : Hp} {p ab : Addr} {f : IM} {L : List Addr} (h : RAt C H p ab f) (s : Fr L H H') (n1 : p ∉ L) (n2 : ab ∉ L) : RAt C H' p ab f := by
  obtain ⟨⟨dx, ob⟩, ⟨k, e, d⟩⟩ := h
  exact ⟨⟨dx, s _ _ ob n1⟩, ⟨k, s _ _ e n2, d⟩⟩
theorem noseq_of {H : Hp} {L : List Addr} (h : ∀ x ∈ L, ∃ o, H x = some o ∧ (∀ xs, o ≠ .lst xs) ∧ (∀ xs, o ≠ .tup xs) ∧ ∀ w o', o ≠ .frz w o') : NoSeq H L := by
  intro x hx u hu
  obtain ⟨o, ho, h1, h2, h3⟩ := h x hx
  rcases hu with hu | ⟨w, hu⟩
  · rw [ho] at hu; cases hu; exact ⟨h1, h2⟩
  · rw [ho] at hu; cases hu; exact absurd rfl (h3 _ _)
theorem ins_no {C dx : Addr} {fs : List (Str × V)} : (∀ xs, HO.ins C dx fs ≠ .lst xs) ∧ (∀ xs, HO.ins C dx fs ≠ .tup xs) ∧ ∀ w o', HO.ins C dx fs ≠ .frz w o' := ⟨fun _ z => (by cases z), fun _ z => (by cases z), fun _ _ z => (by cases z)⟩
theorem dk_no {k : List (Key × V)} : (∀ xs, HO.dK k ≠ .lst xs) ∧ (∀ xs, HO.dK k ≠ .tup xs) ∧ ∀ w o', HO.dK k ≠ .frz w o' := ⟨fun _ z => (by cases z), fun _ z => (by cases z), fun _ _ z => (by cases z)⟩
theorem RAt.noseq {C : Addr} {H : Hp} {p ab : Addr} {f : IM} (h : RAt C H p ab f) : NoSeq H [p, ab] := by
  obtain ⟨⟨dx, ob⟩, ⟨k, e, d⟩⟩ := h
  refine noseq_of fun x hx => ?_
  simp only [List.mem_cons, List.not_mem_nil, or_false] at hx
  rcases hx with rfl | rfl
  · exact ⟨_, ob, ins_no⟩
  · exact ⟨_, e, dk_no⟩
structure QP where
  p : Addr
  b : Addr
  w : Addr
  d : Addr
def QP.all (a : QP) : List Addr := [a.p, a.b, a.w, a.d]
structure QAt (C : Addr) (H : Hp) (a : QP) (B W D : IM) : Prop where
  ob : ∃ dx, H a.p = some (.ins C dx (fl_Restarts (.ref a.b) (.ref a.w) (.ref a.d)))
  hb : DAt U4 V.int H a.b B
  hw : DAt U4 V.int H a.w W
  hd : DAt U4 V.int H a.d D
  bw : a.b ≠ a.w
  bd : a.b ≠ a.d
  wd : a.w ≠ a.d
theorem QAt.same {C : Addr} {H H' : Hp} {a : QP} {B W D : IM} (h : QAt C H a B W D) (s : Same H H') : QAt C H' a B W D := by
  obtain ⟨dx, ob⟩ := h.ob
  exact ⟨⟨dx, s _ _ ob⟩, h.hb.same s, h.hw.same s, h.hd.same s, h.bw, h.bd, h.wd⟩
theorem QAt.frame {C : Addr} {H H' : Hp} {a : QP} {B W D : IM} {L : List Addr} (h : QAt C H a B W D) (s : Fr L H H') (n : ∀ x ∈ a.all, x ∉ L) : QAt C H' a B W D := by
  obtain ⟨⟨dx, ob⟩, ⟨k1, e1, d1⟩, ⟨k2, e2, d2⟩, ⟨k3, e3, d3⟩, h1, h2, h3⟩ := h
  exact ⟨⟨dx, s _ _ ob (n _ (by simp [QP.all]))⟩, ⟨k1, s _ _ e1 (n _ (by simp [QP.all])), d1⟩, ⟨k2, s _ _ e2 (n _ (by simp [QP.all])), d2⟩, ⟨k3, s _ _ e3 (n _ (by simp [QP.all])), d3⟩, h1, h2, h3⟩
theorem QAt.noseq {C : Addr} {H : Hp} {a : QP} {B W D : IM} (h : QAt C H a B W D) : NoSeq H a.all := by
  obtain ⟨⟨dx, ob⟩, ⟨k1, e1, d1⟩, ⟨k2, e2, d2⟩, ⟨k3, e3, d3⟩, h1, h2, h3⟩ := h
  refine noseq_of fun x hx => ?_
  simp only [QP.all, List.mem_cons, List.not_mem_nil, or_false] at hx
  rcases hx with rfl | rfl | rfl | rfl
  · exact ⟨_, ob, ins_no⟩
  · exact ⟨_, e1, dk_no⟩
  · exact ⟨_, e2, dk_no⟩
  · exact ⟨_, e3, dk_no⟩
def sp_rnew (C : Addr) : Sp := fun vs H Q _ => ∃ (p dx : Addr), vs = [.ref p] ∧ H p = some (.ins C dx []) ∧ ∀ (ab : Addr) (H' : Hp), H ab = none → RAt C H' p ab (fun _ => none) → Fr [p] H H' → Q .non H'
def sp_rbegin (C : Addr) : Sp := fun vs H Q _ => ∃ (p ab : Addr) (f : IM) (k : Str) (v : Int), vs = [.ref p, .str k, .int v] ∧ RAt C H p ab f ∧ k ∈ U4 ∧ ∀ H', RAt C H' p ab (setF f k v) → Fr [p, ab] H H' → Q .non H'
def sp_rend (C : Addr) : Sp := fun vs H Q _ => ∃ (p ab : Addr) (f : IM) (k : Str), vs = [.ref p, .str k] ∧ RAt C H p ab f ∧ ∀ v H', RAt C H' p ab (unsF f k) → Fr [p, ab] H H' → Q v H'
def sp_rall (C : Addr) : Sp := fun vs H Q _ => ∃ (p ab : Addr) (f : IM), vs = [.ref p] ∧ RAt C H p ab f ∧ ∀ (ab' : Addr) (H' : Hp), H ab' = none → RAt C H' p ab' (fun _ => none) → Fr [p, ab] H H' → Q .non H'
def sp_rborn (C : Addr) : Sp := fun vs H Q _ => ∃ (p ab : Addr) (f : IM) (k : Str), vs = [.ref p, .str k] ∧ RAt C H p ab f ∧ Q (.int ((f k).getD 0)) H
def sp_rslots (C : Addr) : Sp := fun vs H Q _ => ∃ (p ab : Addr) (f : IM), vs = [.ref p] ∧ RAt C H p ab f ∧ ∀ ys l H', Ord (fun s => (f s).isSome) ys → H l = none → Same H H' → H' l = some (.lst (ys.map V.str)) → Q (.ref l) H'
def sp_qnew (C : Addr) : Sp := fun vs H Q _ => ∃ (p dx : Addr), vs = [.ref p] ∧ H p = some (.ins C dx []) ∧ ∀ (a : QP) (H' : Hp), a.p = p → H a.b = none → H a.w = none → H a.d = none → QAt C H' a (fun _ => none) (fun _ => none) (fun _ => none) → Fr [p] H H' → Q .non H'
def sp_qbegun (C : Addr) : Sp := fun vs H Q _ => ∃ (a : QP) (B W D : IM) (k : Str) (v : Int), vs = [.ref a.p, .str k, .int v] ∧ QAt C H a B W D ∧ k ∈ U4 ∧ ∀ H', QAt C H' a (setF B k v) W D → Fr a.all H H' → Q .non H'
/-- the next wait -/
def nextW (B W : IM) (k : Str) (now : Int) : Int := match W k with
  | none => 1
  | some x => if 32 ≤ now - (B k).getD now then 1 else if 2 * x < 16 then 2 * x else 16
def sp_qnext (C : Addr) : Sp := fun vs H Q _ => ∃ (a : QP) (B W D : IM) (k : Str) (v : Int), vs = [.ref a.p, .str k, .int v] ∧ QAt C H a B W D ∧ Q (.int (nextW B W k v)) H
def sp_qfailed (C : Addr) : Sp := fun vs H Q _ => ∃ (a : QP) (B W D : IM) (k : Str) (v : Int), vs = [.ref a.p, .str k, .int v] ∧ QAt C H a B W D ∧ k ∈ U4 ∧ ∀ H', QAt C H' a B (setF W k (nextW B W k v)) (setF D k (v + nextW B W k v)) → Fr a.all H H' → Q .non H'
def sp_qdue (C : Addr) : Sp := fun vs H Q _ => ∃ (a : QP) (B W D : IM) (k : Str) (v : Int), vs = [.ref a.p, .str k, .int v] ∧ QAt C H a B W D ∧ Q (.bl (decide ((D k).getD v ≤ v))) H
def sp_qforget (C : Addr) : Sp := fun vs H Q _ => ∃ (a : QP) (B W D : IM) (k : Str), vs = [.ref a.p, .str k] ∧ QAt C H a B W D ∧ ∀ v H', QAt C H' a (unsF B k) (unsF W k) (unsF D k) → Fr a.all H H' → Q v H'
section
variable {P : Program} {w : World} {K : PySem.W.Frag} {mg : Str → Option Value} {base : Heap}
theorem ok_Runs___init__ (T : TX K mg) : FnOk P w K mg base CX0 1 T.a_Runs___init__ T.d_Runs___init__ ["self"] (sp_rnew T.a_Runs) := by
  refine T.F_Runs___init__.ok sc_Runs___init__ (fun vs H Q E h => ?_) (fun cdv A outer s H vs Q E hr h => ?_)
  · obtain ⟨p, dx, rfl, _⟩ := h
    rfl
  · obtain ⟨p, dx, rfl, hp, c⟩ := h
    refine ⟨_, (pss_one (ps_fld (pv 0) pe_dnewK rfl)), ?_⟩
    refine fun ab hab => ⟨_, rfl, p, T.a_Runs, dx, [], rfl, by rw [upd_ne (ne_of_none hp hab)]; exact hp, T.K_Runs, T.na_Runs__borns, (by show 0 < 1000; decide), ?_⟩
    have n1 : ab ≠ p := (ne_of_none hp hab).symm
    refine c ab _ hab ⟨⟨dx, ?_⟩, ⟨[], ?_, ds_nil⟩⟩ ?_
    · rw [upd_same, fl_Runs_new]
    · rw [upd_ne n1, upd_same]
    · intro x o hx hxp
      have hxp' : x ≠ p := by simpa using hxp
      rw [upd_ne hxp', upd_ne (ne_of_none hx hab)]
      exact hx
theorem ok_Runs_begin (T : TX K mg) : FnOk P w K mg base CX0 1 T.a_Runs_begin T.d_Runs_begin ["self", "slot", "born"] (sp_rbegin T.a_Runs) := by
  refine T.F_Runs_begin.ok sc_Runs_begin (fun vs H Q E h => ?_) (fun cdv A outer s H vs Q E hr h => ?_)
  · obtain ⟨p, ab, f, k, v, rfl, _⟩ := h
    rfl
  · obtain ⟨p, ab, f, k, v, rfl, ⟨⟨dx, ob⟩, ⟨k1, e1, d1⟩⟩, hU, c⟩ := h
    refine ⟨_, (pss_one (ps_dput (hu_of hr) (pe_fld (pv 0) rfl) (pv 1) (pv 2) rfl)), ?_⟩
    have npb : p ≠ ab := fun z => by rw [z, e1] at ob; cases ob
    have l1 := ds_len d1
    have u4 := u4_len
    refine ⟨_, rfl, _, rfl, p, _, dx, _, _, rfl, ob, T.K_Runs, T.na_Runs__borns, fl_Runs__borns, _, rfl, ab, _, rfl, DPut.k (k := Sum.inr k) e1 (szl (by omega)), ?_⟩
    exact c _ ⟨⟨dx, by rw [upd_ne npb]; exact ob⟩, ⟨_, upd_same, ds_put d1 hU v⟩⟩ ((Fr.refl _ _).up (by simp))
theorem ok_Runs_end (T : TX K mg) : FnOk P w K mg base CX0 1 T.a_Runs_end T.d_Runs_end ["self", "slot"] (sp_rend T.a_Runs) := by
  refine T.F_Runs_end.ok sc_Runs_end (fun vs H Q E h => ?_) (fun cdv A outer s H vs Q E hr h => ?_)
  · obtain ⟨p, ab, f, k, rfl, _⟩ := h
    rfl
  · obtain ⟨p, ab, f, k, rfl, ⟨⟨dx, ob⟩, ⟨k1, e1, d1⟩⟩, c⟩ := h
    refine ⟨_, (pss_one (ps_expr (pe_dpop2 (pe_fld (pv 0) rfl) (pv 1) pe_non ⟨rfl, rfl, rfl, rfl⟩))), ?_⟩
    have npb : p ≠ ab := fun z => by rw [z, e1] at ob; cases ob
    refine ⟨_, rfl, p, _, dx, _, _, rfl, ob, T.K_Runs, T.na_Runs__borns, fl_Runs__borns, ab, rfl, .inl ⟨_, .inl e1⟩, _, rfl, k1, Sum.inr k, e1, rfl, fun v hv => ?_, fun hv => ?_⟩
    · exact c _ _ ⟨⟨dx, by rw [upd_ne npb]; exact ob⟩, ⟨_, upd_same, ds_drop d1 k⟩⟩ ((Fr.refl _ _).up (by simp))
    · refine c _ _ ⟨⟨dx, ob⟩, ⟨k1, e1, ?_⟩⟩ (Fr.refl _ _)
      rw [dat_none (H := H) (d := ab) d1 hv]
      exact d1
theorem ok_Runs_end_all (T : TX K mg) : FnOk P w K mg base CX0 1 T.a_Runs_end_all T.d_Runs_end_all ["self"] (sp_rall T.a_Runs) := by
  refine T.F_Runs_end_all.ok sc_Runs_end_all (fun vs H Q E h => ?_) (fun cdv A outer s H vs Q E hr h => ?_)
  · obtain ⟨p, ab, f, rfl, _⟩ := h
    rfl
  · obtain ⟨p, ab, f, rfl, ⟨⟨dx, ob⟩, ⟨k1, e1, d1⟩⟩, c⟩ := h
    refine ⟨_, (pss_one (ps_fld (pv 0) pe_dnewK rfl)), ?_⟩
    refine fun a2 ha2 => ⟨_, rfl, p, T.a_Runs, dx, _, rfl, by rw [upd_ne (ne_of_none ob ha2)]; exact ob, T.K_Runs, T.na_Runs__borns, (by show 1 < 1000; decide), ?_⟩
    have n1 : a2 ≠ p := (ne_of_none ob ha2).symm
    refine c a2 _ ha2 ⟨⟨dx, ?_⟩, ⟨[], ?_, ds_nil⟩⟩ ?_
    · rw [upd_same, pf_Runs__borns]
    · rw [upd_ne n1, upd_same]
    · intro x o hx hxp
      have hxp' : x ≠ p := fun z => hxp (by simp [z])
      rw [upd_ne hxp', upd_ne (ne_of_none hx ha2)]
      exact hx
theorem ok_Runs_born_of (T : TX K mg) : FnOk P w K mg base CX0 1 T.a_Runs_born_of T.d_Runs_born_of ["self", "slot"] (sp_rborn T.a_Runs) := by
  refine T.F_Runs_born_of.ok sc_Runs_born_of (fun vs H Q E h => ?_) (fun cdv A outer s H vs Q E hr h => ?_)
  · obtain ⟨p, ab, f, k, rfl, _⟩ := h
    rfl
  · obtain ⟨p, ab, f, k, rfl, ⟨⟨dx, ob⟩, ⟨k1, e1, d1⟩⟩, c⟩ := h
    refine ⟨_, (pss_one (ps_ret (pe_dget2 (hu_of hr) (pe_fld (pv 0) rfl) (pv 1) pe_int ⟨rfl, rfl, rfl, rfl⟩))), ?_⟩
    refine ⟨_, rfl, p, _, dx, _, _, rfl, ob, T.K_Runs, T.na_Runs__borns, fl_Runs__borns, ab, rfl, .inl ⟨_, .inl e1⟩, _, rfl, _, DGet.k (k := Sum.inr k) e1, ?_⟩
    rw [d1.vl k, show ((f k).map V.int).getD (.int 0) = .int ((f k).getD 0) by cases f k <;> rfl]
    exact c
theorem ok_Runs_slots (T : TX K mg) : FnOk P w K mg base CX0 1 T.a_Runs_slots T.d_Runs_slots ["self"] (sp_rslots T.a_Runs) := by
  refine T.F_Runs_slots.ok sc_Runs_slots (fun vs H Q E h => ?_) (fun cdv A outer s H vs Q E hr h => ?_)
  · obtain ⟨p, ab, f, rfl, _⟩ := h
    rfl
  · obtain ⟨p, ab, f, rfl, ⟨⟨dx, ob⟩, ⟨k1, e1, d1⟩⟩, c⟩ := h
    refine ⟨_, (pss_one (ps_ret (pe_callB (call_sortedD rfl) (by rfl) T.n_sorted (by decide +kernel) (pa_cons (pe_fld (pv 0) rfl) pa_nil)))), ?_⟩
    have l1 := ds_len d1
    have u4 := u4_len
    refine ⟨_, rfl, p, _, dx, _, _, rfl, ob, T.K_Runs, T.na_Runs__borns, fl_Runs__borns, ab, k1, _, rfl, .inl e1, keys_map d1, by rw [List.length_map]; omega, fun ys l hp hs hf => ?_⟩
    exact c ys l _ ⟨hp.nodup_iff.mpr (keys_nd d1), hs, fun s => by rw [hp.mem_iff, key_iff d1]⟩ hf (same_upd hf) upd_same
theorem ok_Restarts___init__ (T : TX K mg) : FnOk P w K mg base CX0 1 T.a_Restarts___init__ T.d_Restarts___init__ ["self"] (sp_qnew T.a_Restarts) := by
  refine T.F_Restarts___init__.ok sc_Restarts___init__ (fun vs H Q E h => ?_) (fun cdv A outer s H vs Q E hr h => ?_)
  · obtain ⟨p, dx, rfl, _⟩ := h
    rfl
  · obtain ⟨p, dx, rfl, hp, c⟩ := h
    refine ⟨_, (pss_cons (ps_fld (pv 0) pe_dnewK rfl)
      (pss_cons (ps_fld (pv 0) pe_dnewK rfl)
      (pss_one (ps_fld (pv 0) pe_dnewK rfl)))), ?_⟩
    refine fun b hb => ⟨_, rfl, p, T.a_Restarts, dx, [], rfl, by rw [upd_ne (ne_of_none hp hb)]; exact hp, T.K_Restarts, T.na_Restarts__begun, (by show 0 < 1000; decide), ?_⟩
    have n1 : b ≠ p := (ne_of_none hp hb).symm
    refine fun w hw => ⟨_, rfl, p, T.a_Restarts, dx, _, rfl, by rw [upd_ne (fun z => by rw [← z, upd_same] at hw; cases hw), upd_same], T.K_Restarts, T.na_Restarts__waits, (by show 1 < 1000; decide), ?_⟩
    have n2 : w ≠ p := fun z => by rw [z, upd_same] at hw; cases hw
    rw [upd_ne n2] at hw
    have n3 : w ≠ b := fun z => by rw [z, upd_same] at hw; cases hw
    rw [upd_ne n3] at hw
    refine fun d hd => ⟨_, rfl, p, T.a_Restarts, dx, _, rfl, by rw [upd_ne (fun z => by rw [← z, upd_same] at hd; cases hd), upd_same], T.K_Restarts, T.na_Restarts__due, (putF_lt (putF_le (putF_le (Nat.le_refl 0))) (by decide)), ?_⟩
    have n4 : d ≠ p := fun z => by rw [z, upd_same] at hd; cases hd
    rw [upd_ne n4] at hd
    have n5 : d ≠ w := fun z => by rw [z, upd_same] at hd; cases hd
    rw [upd_ne n5, upd_ne n4] at hd
    have n6 : d ≠ b := fun z => by rw [z, upd_same] at hd; cases hd
    rw [upd_ne n6] at hd
    refine c ⟨p, b, w, d⟩ _ rfl hb hw hd ⟨⟨dx, ?_⟩, ⟨[], ?_, ds_nil⟩, ⟨[], ?_, ds_nil⟩, ⟨[], ?_, ds_nil⟩, n3.symm, n6.symm, n5.symm⟩ ?_
    · rw [upd_same, fl_Restarts_new]
    · show upd _ p _ b = _
      rw [upd_ne n1, upd_ne n6.symm, upd_ne n1, upd_ne n3.symm, upd_ne n1, upd_same]
    · show upd _ p _ w = _
      rw [upd_ne n2, upd_ne n5.symm, upd_ne n2, upd_same]
    · show upd _ p _ d = _
      rw [upd_ne n4, upd_same]
    · intro x o hx hxp
      have hxp' : x ≠ p := by simpa using hxp
      rw [upd_ne hxp', upd_ne (ne_of_none hx hd), upd_ne hxp', upd_ne (ne_of_none hx hw), upd_ne hxp', upd_ne (ne_of_none hx hb)]
      exact hx
theorem ok_Restarts_begun (T : TX K mg) : FnOk P w K mg base CX0 1 T.a_Restarts_begun T.d_Restarts_begun ["self", "slot", "now"] (sp_qbegun T.a_Restarts) := by
  refine T.F_Restarts_begun.ok sc_Restarts_begun (fun vs H Q E h => ?_) (fun cdv A outer s H vs Q E hr h => ?_)
  · obtain ⟨a, B, W, D, k, v, rfl, _⟩ := h
    rfl
  · obtain ⟨a, B, W, D, k, v, rfl, ⟨⟨dx, ob⟩, ⟨k1, e1, d1⟩, ⟨k2, e2, d2⟩, ⟨k3, e3, d3⟩, h1, h2, h3⟩, hU, c⟩ := h
    refine ⟨_, (pss_one (ps_dput (hu_of hr) (pe_fld (pv 0) rfl) (pv 1) (pv 2) rfl)), ?_⟩
    have n1 : a.p ≠ a.b := fun z => by rw [z, e1] at ob; cases ob
    have l1 := ds_len d1
    have u4 := u4_len
    refine ⟨_, rfl, _, rfl, a.p, _, dx, _, _, rfl, ob, T.K_Restarts, T.na_Restarts__begun, fl_Restarts__begun, _, rfl, a.b, _, rfl, DPut.k (k := Sum.inr k) e1 (szl (by omega)), ?_⟩
    exact c _ ⟨⟨dx, by rw [upd_ne n1]; exact ob⟩, ⟨_, upd_same, ds_put d1 hU v⟩, ⟨k2, by rw [upd_ne h1.symm]; exact e2, d2⟩, ⟨k3, by rw [upd_ne h2.symm]; exact e3, d3⟩, h1, h2, h3⟩ ((Fr.refl _ _).up (by simp [QP.all]))
theorem ok_Restarts__next_wait (T : TX K mg) : FnOk P w K mg base CX0 1 T.a_Restarts__next_wait T.d_Restarts__next_wait ["self", "slot", "now"] (sp_qnext T.a_Restarts) := by
  refine T.F_Restarts__next_wait.ok sc_Restarts__next_wait (fun vs H Q E h => ?_) (fun cdv A outer s H vs Q E hr h => ?_)
  · obtain ⟨a, B, W, D, k, v, rfl, _⟩ := h
    rfl
  · obtain ⟨a, B, W, D, k, v, rfl, ⟨⟨dx, ob⟩, ⟨k1, e1, d1⟩, ⟨k2, e2, d2⟩, ⟨k3, e3, d3⟩, h1, h2, h3⟩, c⟩ := h
    refine ⟨_, (pss_cons (ps_if (PW.pt (pw_or (pt_cmp (pc_dnotin (hu_of hr) (pv 1) (pe_fld (pv 0) rfl))) (pw_or1 (pt_cmpR op_ge (pe_op op_sub (pv 2) (pe_dget2 (hu_of hr) (pe_fld (pv 0) rfl) (pv 1) (pv 2) ⟨rfl, rfl, rfl, rfl⟩)) (pe_glob (v := .int 32) (by rfl) T.c_LONG_RUN ⟨_, rfl⟩) (nomark _))))) (pss_one (ps_ret (pe_glob (v := .int 1) (by rfl) T.c_FIRST_WAIT ⟨_, rfl⟩))) pss_nil)
      (pss_one (ps_ret (pe_callB (call_min2 rfl) (by rfl) T.n_min (by decide +kernel) (pa_cons (pe_glob (v := .int 16) (by rfl) T.c_MOST_WAIT ⟨_, rfl⟩) (pa_cons (pe_op op_mul pe_int (pe_dget (hu_of hr) (pe_fld (pv 0) rfl) (pv 1) (fun _ _ => rfl))) pa_nil)))))), ?_⟩
    refine ⟨_, rfl, _, rfl, a.p, _, dx, _, _, rfl, ob, T.K_Restarts, T.na_Restarts__waits, fl_Restarts__waits, a.w, _, rfl, DGet.k (k := Sum.inr k) e2, _, rfl, ?_⟩
    have hv := d2.vl k
    rw [hv]
    unfold nextW at c
    cases hw : W k with
    | none =>
      rw [hw] at c
      exact ifbt rfl c
    | some x =>
      rw [hw] at c hv
      refine ifbf rfl ⟨_, rfl, _, rfl, a.p, _, dx, _, _, rfl, ob, T.K_Restarts, T.na_Restarts__begun, fl_Restarts__begun, a.b, rfl, .inl ⟨_, .inl e1⟩, _, rfl, _, rfl, _, DGet.k (k := Sum.inr k) e1, ?_⟩
      rw [d1.vl k, show ((B k).map V.int).getD (.int v) = .int ((B k).getD v) by cases B k <;> rfl]
      refine ⟨_, _, rfl, rfl, _, _, rfl, rfl, _, rfl, ifd (fun h => ?_) (fun h => ?_)⟩
      · have c : Q (.int (if 32 ≤ v - (B k).getD v then 1 else if 2 * x < 16 then 2 * x else 16)) H := c
        rw [if_pos h] at c
        exact c
      · have c : Q (.int (if 32 ≤ v - (B k).getD v then 1 else if 2 * x < 16 then 2 * x else 16)) H := c
        rw [if_neg h] at c
        refine ⟨_, rfl, a.p, _, dx, _, _, rfl, ob, T.K_Restarts, T.na_Restarts__waits, fl_Restarts__waits, _, rfl, a.w, .int x, rfl, by rw [show some (V.int x) = valV k2 (Sum.inr k) by rw [hv]; rfl]; exact DGet.k (k := Sum.inr k) e2, _, _, rfl, rfl, .inl ⟨by decide, by decide⟩, _, _, rfl, ?_⟩
        exact c
theorem ok_Restarts_failed (T : TX K mg) : FnOk P w K mg base CX0 2 T.a_Restarts_failed T.d_Restarts_failed ["self", "slot", "now"] (sp_qfailed T.a_Restarts) := by
  refine T.F_Restarts_failed.ok sc_Restarts_failed (fun vs H Q E h => ?_) (fun cdv A outer s H vs Q E hr h => ?_)
  · obtain ⟨a, B, W, D, k, v, rfl, _⟩ := h
    rfl
  · obtain ⟨a, B, W, D, k, v, rfl, hA, hU, c⟩ := h
    refine ⟨_, (pss_cons (ps_dput (hu_of hr) (pe_fld (pv 0) rfl) (pv 1) (pe_meth (pv 0) T.K_Restarts T.m_Restarts__next_wait (ok_Restarts__next_wait T) (hr.mono (by decide)) T.b_Restarts__next_wait .nil pass0 (pa_cons (pv 1) (pa_cons (pv 2) pa_nil))) rfl)
      (pss_one (ps_dput (hu_of hr) (pe_fld (pv 0) rfl) (pv 1) (pe_op op_add (pv 2) (pe_dget (hu_of hr) (pe_fld (pv 0) rfl) (pv 1) (fun _ _ => rfl))) rfl))), ?_⟩
    have hA0 := hA
    obtain ⟨⟨dx, ob⟩, ⟨k1, e1, d1⟩, ⟨k2, e2, d2⟩, ⟨k3, e3, d3⟩, h1, h2, h3⟩ := hA
    have n1 : a.p ≠ a.w := fun z => by rw [z, e2] at ob; cases ob
    have n2 : a.p ≠ a.d := fun z => by rw [z, e3] at ob; cases ob
    have l2 := ds_len d2
    have l3 := ds_len d3
    have u4 := u4_len
    refine ⟨_, rfl, a.p, dx, _, rfl, ob, fl_Restarts_no__next_wait, _, rfl, _, rfl, a, B, W, D, k, v, rfl, hA0, ?_⟩
    generalize hn : nextW B W k v = n at c
    refine ⟨_, rfl, a.p, _, dx, _, _, rfl, ob, T.K_Restarts, T.na_Restarts__waits, fl_Restarts__waits, _, rfl, a.w, _, rfl, DPut.k (k := Sum.inr k) e2 (szl (by omega)), ?_⟩
    have ob2 : upd H a.w (.dK (putK k2 (Sum.inr k) (.int n))) a.p = some (.ins T.a_Restarts dx (fl_Restarts (.ref a.b) (.ref a.w) (.ref a.d))) := by rw [upd_ne n1]; exact ob
    have e2' : upd H a.w (.dK (putK k2 (Sum.inr k) (.int n))) a.w = some (.dK (putK k2 (Sum.inr k) (.int n))) := upd_same
    have e3' : upd H a.w (.dK (putK k2 (Sum.inr k) (.int n))) a.d = some (.dK k3) := by rw [upd_ne h3.symm]; exact e3
    have e1' : upd H a.w (.dK (putK k2 (Sum.inr k) (.int n))) a.b = some (.dK k1) := by rw [upd_ne h1]; exact e1
    have fr : Fr a.all H (upd H a.w (.dK (putK k2 (Sum.inr k) (.int n)))) := (Fr.refl _ _).up (by simp [QP.all])
    have d2' := ds_put d2 hU n
    generalize upd H a.w (.dK (putK k2 (Sum.inr k) (.int n))) = G at ob2 e2' e3' e1' fr
    have hv := d2'.vl k
    rw [setF_same] at hv
    refine ⟨_, rfl, _, rfl, a.p, _, dx, _, _, rfl, ob2, T.K_Restarts, T.na_Restarts__waits, fl_Restarts__waits, _, rfl, a.w, .int n, rfl, by rw [show some (V.int n) = valV _ (Sum.inr k) from hv.symm]; exact DGet.k (k := Sum.inr k) e2', _, _, rfl, rfl, _, rfl, a.p, _, dx, _, _, rfl, ob2, T.K_Restarts, T.na_Restarts__due, fl_Restarts__due, _, rfl, a.d, _, rfl, DPut.k (k := Sum.inr k) e3' (szl (by omega)), ?_⟩
    exact c _ ⟨⟨dx, by rw [upd_ne n2]; exact ob2⟩, ⟨k1, by rw [upd_ne h2]; exact e1', d1⟩, ⟨_, by rw [upd_ne h3]; exact e2', d2'⟩, ⟨_, upd_same, ds_put d3 hU (v + n)⟩, h1, h2, h3⟩ (fr.up (by simp [QP.all]))
theorem ok_Restarts_is_due (T : TX K mg) : FnOk P w K mg base CX0 1 T.a_Restarts_is_due T.d_Restarts_is_due ["self", "slot", "now"] (sp_qdue T.a_Restarts) := by
  refine T.F_Restarts_is_due.ok sc_Restarts_is_due (fun vs H Q E h => ?_) (fun cdv A outer s H vs Q E hr h => ?_)
  · obtain ⟨a, B, W, D, k, v, rfl, _⟩ := h
    rfl
  · obtain ⟨a, B, W, D, k, v, rfl, ⟨⟨dx, ob⟩, ⟨k1, e1, d1⟩, ⟨k2, e2, d2⟩, ⟨k3, e3, d3⟩, h1, h2, h3⟩, c⟩ := h
    refine ⟨_, (pss_one (ps_ret (pe_cmpR op_ge (pv 2) (pe_dget2 (hu_of hr) (pe_fld (pv 0) rfl) (pv 1) (pv 2) ⟨rfl, rfl, rfl, rfl⟩) (nomark _)))), ?_⟩
    refine ⟨_, rfl, _, rfl, a.p, _, dx, _, _, rfl, ob, T.K_Restarts, T.na_Restarts__due, fl_Restarts__due, a.d, rfl, .inl ⟨_, .inl e3⟩, _, rfl, _, rfl, _, DGet.k (k := Sum.inr k) e3, ?_⟩
    rw [d3.vl k, show ((D k).map V.int).getD (.int v) = .int ((D k).getD v) by cases D k <;> rfl]
    exact ⟨_, _, rfl, rfl, c⟩
theorem ok_Restarts_forget (T : TX K mg) : FnOk P w K mg base CX0 1 T.a_Restarts_forget T.d_Restarts_forget ["self", "slot"] (sp_qforget T.a_Restarts) := by
  refine T.F_Restarts_forget.ok sc_Restarts_forget (fun vs H Q E h => ?_) (fun cdv A outer s H vs Q E hr h => ?_)
  · obtain ⟨a, B, W, D, k, rfl, _⟩ := h
    rfl
  · obtain ⟨a, B, W, D, k, rfl, ⟨⟨dx, ob⟩, ⟨k1, e1, d1⟩, ⟨k2, e2, d2⟩, ⟨k3, e3, d3⟩, h1, h2, h3⟩, c⟩ := h
    refine ⟨_, (C8.pss_cut (ps_expr (pe_dpop2 (pe_fld (pv 0) rfl) (pv 1) pe_non ⟨rfl, rfl, rfl, rfl⟩))
      (C8.pss_cut (ps_expr (pe_dpop2 (pe_fld (pv 0) rfl) (pv 1) pe_non ⟨rfl, rfl, rfl, rfl⟩))
      (pss_one (ps_expr (pe_dpop2 (pe_fld (pv 0) rfl) (pv 1) pe_non ⟨rfl, rfl, rfl, rfl⟩))))), ?_⟩
    have n0 : a.p ≠ a.b := fun z => by rw [z, e1] at ob; cases ob
    have n1 : a.p ≠ a.w := fun z => by rw [z, e2] at ob; cases ob
    have n2 : a.p ≠ a.d := fun z => by rw [z, e3] at ob; cases ob
    refine ⟨fun σ' G => σ' = [some (.ref a.p), some (.str k)] ∧ QAt T.a_Restarts G a (unsF B k) W D ∧ Fr a.all H G, ?_, ?_⟩
    · refine ⟨_, rfl, a.p, _, dx, _, _, rfl, ob, T.K_Restarts, T.na_Restarts__begun, fl_Restarts__begun, a.b, rfl, .inl ⟨_, .inl e1⟩, _, rfl, k1, Sum.inr k, e1, rfl, fun v hv => ?_, fun hv => ?_⟩
      · exact ⟨rfl, ⟨⟨dx, by rw [upd_ne n0]; exact ob⟩, ⟨_, upd_same, ds_drop d1 k⟩, ⟨k2, by rw [upd_ne h1.symm]; exact e2, d2⟩, ⟨k3, by rw [upd_ne h2.symm]; exact e3, d3⟩, h1, h2, h3⟩, (Fr.refl _ _).up (by simp [QP.all])⟩
      · refine ⟨rfl, ⟨⟨dx, ob⟩, ⟨k1, e1, ?_⟩, ⟨k2, e2, d2⟩, ⟨k3, e3, d3⟩, h1, h2, h3⟩, Fr.refl _ _⟩
        rw [dat_none (H := H) (d := a.b) d1 hv]
        exact d1
    rintro σ' G ⟨rfl, ⟨⟨dx, ob⟩, ⟨k1, e1, d1⟩, ⟨k2, e2, d2⟩, ⟨k3, e3, d3⟩, h1, h2, h3⟩, fr⟩
    refine ⟨fun σ' G => σ' = [some (.ref a.p), some (.str k)] ∧ QAt T.a_Restarts G a (unsF B k) (unsF W k) D ∧ Fr a.all H G, ?_, ?_⟩
    · refine ⟨_, rfl, a.p, _, dx, _, _, rfl, ob, T.K_Restarts, T.na_Restarts__waits, fl_Restarts__waits, a.w, rfl, .inl ⟨_, .inl e2⟩, _, rfl, k2, Sum.inr k, e2, rfl, fun v hv => ?_, fun hv => ?_⟩
      · exact ⟨rfl, ⟨⟨dx, by rw [upd_ne n1]; exact ob⟩, ⟨k1, by rw [upd_ne h1]; exact e1, d1⟩, ⟨_, upd_same, ds_drop d2 k⟩, ⟨k3, by rw [upd_ne h3.symm]; exact e3, d3⟩, h1, h2, h3⟩, fr.up (by simp [QP.all])⟩
      · refine ⟨rfl, ⟨⟨dx, ob⟩, ⟨k1, e1, d1⟩, ⟨k2, e2, ?_⟩, ⟨k3, e3, d3⟩, h1, h2, h3⟩, fr⟩
        rw [dat_none (H := H) (d := a.w) d2 hv]
        exact d2
    rintro σ' G ⟨rfl, ⟨⟨dx, ob⟩, ⟨k1, e1, d1⟩, ⟨k2, e2, d2⟩, ⟨k3, e3, d3⟩, h1, h2, h3⟩, fr⟩
    refine ⟨_, rfl, a.p, _, dx, _, _, rfl, ob, T.K_Restarts, T.na_Restarts__due, fl_Restarts__due, a.d, rfl, .inl ⟨_, .inl e3⟩, _, rfl, k3, Sum.inr k, e3, rfl, fun v hv => ?_, fun hv => ?_⟩
    · exact c _ _ ⟨⟨dx, by rw [upd_ne n2]; exact ob⟩, ⟨k1, by rw [upd_ne h2]; exact e1, d1⟩, ⟨k2, by rw [upd_ne h3]; exact e2, d2⟩, ⟨_, upd_same, ds_drop d3 k⟩, h1, h2, h3⟩ (fr.up (by simp [QP.all]))
    · refine c _ _ ⟨⟨dx, ob⟩, ⟨k1, e1, d1⟩, ⟨k2, e2, d2⟩, ⟨k3, e3, ?_⟩, h1, h2, h3⟩ fr
      rw [dat_none (H := H) (d := a.d) d3 hv]
      exact d3
end
/-! the law's rows -/
structure R2 where
  nm : Str
  bn : Int
def R2.d (r : R2) : PyData := .tuple [.str r.nm, .int r.bn]
structure RepR (rs : List R2) (f : IM) : Prop where
  nod : (rs.map (·.nm)).Nodup
  inU : ∀ r ∈ rs, r.nm ∈ U4
  get : ∀ r ∈ rs, f r.nm = some r.bn
  all : ∀ s, (f s).isSome = true → s ∈ rs.map (·.nm)
structure R5 where
  nm : Str
  bg : Int
  wt : Int
  du : Int
  rn : Bool
def R5.d (r : R5) : PyData := .tuple [.str r.nm, .int r.bg, .int r.wt, .int r.du, .bool r.rn]
def Tie (B W D : IM) (now : Int) (r : R5) : Prop := if r.rn = true then B r.nm = some r.bg ∧ W r.nm = (if r.wt = 0 then none else some r.wt) ∧ (∀ d, D r.nm = some d → d ≤ r.du) ∧ r.du ≤ now ∧ 0 ≤ r.wt ∧ r.bg ≤ now else W r.nm = some r.wt ∧ D r.nm = some r.du ∧ 1 ≤ r.wt
structure RepW (rs : List R5) (B W D : IM) (now : Int) : Prop where
  nod : (rs.map (·.nm)).Nodup
  inU : ∀ r ∈ rs, r.nm ∈ U4
  get : ∀ r ∈ rs, Tie B W D now r
  out : ∀ s, s ∉ rs.map (·.nm) → W s = none ∧ D s = none
theorem repr_len {rs : List R2} {f : IM} (h : RepR rs f) : rs.length ≤ 4 := by
  have := nd_len h.nod (U := U4) (fun x hx => by
    obtain ⟨r, hr, rfl⟩ := List.mem_map.mp hx
    exact h.inU r hr)
  rw [List.length_map] at this
  have u := u4_len
  omega
theorem repw_len {rs : List R5} {B W D : IM} {now : Int} (h : RepW rs B W D now) : rs.length ≤ 4 := by
  have := nd_len h.nod (U := U4) (fun x hx => by
    obtain ⟨r, hr, rfl⟩ := List.mem_map.mp hx
    exact h.inU r hr)
  rw [List.length_map] at this
  have u := u4_len
  omega
theorem repr_mem {rs : List R2} {f : IM} (h : RepR rs f) (s : Str) : s ∈ rs.map (·.nm) ↔ (f s).isSome = true := by
  refine ⟨fun hs => ?_, h.all s⟩
  obtain ⟨r, hr, rfl⟩ := List.mem_map.mp hs
  rw [h.get r hr]
  rfl
def neR (k : Str) (r : R2) : Bool := !decide (V.str r.nm = V.str k)
theorem neR_iff {k : Str} {r : R2} : neR k r = true ↔ r.nm ≠ k := by unfold neR; simp
def neW (k : Str) (r : R5) : Bool := !decide (V.str r.nm = V.str k)
theorem neW_iff {k : Str} {r : R5} : neW k r = true ↔ r.nm ≠ k := by unfold neW; simp
theorem repr_nil : RepR [] (fun _ => none) := ⟨List.nodup_nil, (fun _ h => by cases h), (fun _ h => by cases h), (fun _ h => by cases h)⟩
theorem repr_drop {rs : List R2} {f : IM} (h : RepR rs f) (k : Str) : RepR (rs.filter (neR k)) (unsF f k) := by
  refine ⟨((List.filter_sublist (l := rs)).map (·.nm)).nodup h.nod, fun r hr => h.inU r (List.mem_filter.mp hr).1, fun r hr => ?_, fun s hs => ?_⟩
  · obtain ⟨g1, g2⟩ := List.mem_filter.mp hr
    rw [unsF_ne (neR_iff.mp g2)]
    exact h.get r g1
  · by_cases e : s = k
    · rw [e, unsF_same] at hs; cases hs
    · rw [unsF_ne e] at hs
      obtain ⟨r, hr, rfl⟩ := List.mem_map.mp (h.all s hs)
      exact List.mem_map.mpr ⟨r, List.mem_filter.mpr ⟨hr, neR_iff.mpr e⟩, rfl⟩
theorem repr_put {rs : List R2} {f : IM} (h : RepR rs f) {k : Str} (hk : k ∈ U4) (v : Int) : RepR (rs.filter (neR k) ++ [⟨k, v⟩]) (setF f k v) := by
  have g := repr_drop h k
  have hne : ∀ r ∈ rs.filter (neR k), r.nm ≠ k := fun r hr => neR_iff.mp (List.mem_filter.mp hr).2
  refine ⟨?_, fun r hr => ?_, fun r hr => ?_, fun s hs => ?_⟩
  · rw [List.map_append]
    refine List.nodup_append.mpr ⟨g.nod, by simp, fun x hx y hy z => ?_⟩
    obtain ⟨r, hr, rfl⟩ := List.mem_map.mp hx
    simp only [List.map_cons, List.map_nil, List.mem_cons, List.not_mem_nil, or_false] at hy
    exact hne r hr (z.trans hy)
  · rcases List.mem_append.mp hr with hr | hr
    · exact g.inU r hr
    · rw [List.mem_singleton] at hr; rw [hr]; exact hk
  · rcases List.mem_append.mp hr with hr | hr
    · have := g.get r hr
      rw [unsF_ne (hne r hr)] at this
      rw [setF_ne (hne r hr)]
      exact this
    · rw [List.mem_singleton] at hr
      rw [hr, setF_same]
  · rw [List.map_append]
    by_cases e : s = k
    · exact List.mem_append.mpr (.inr (by simp [e]))
    · rw [setF_ne e] at hs
      exact List.mem_append.mpr (.inl (g.all s (by rw [unsF_ne e]; exact hs)))
theorem tie_same {B W D B' W' D' : IM} {now : Int} {r : R5} (h : Tie B W D now r) (h1 : B' r.nm = B r.nm) (h2 : W' r.nm = W r.nm) (h3 : D' r.nm = D r.nm) : Tie B' W' D' now r := by
  unfold Tie at h ⊢
  rw [h1, h2, h3]
  exact h
theorem tie_later {B W D : IM} {now n2 : Int} {r : R5} (h : Tie B W D now r) (hn : now ≤ n2) : Tie B W D n2 r := by
  unfold Tie at h ⊢
  split at h
  · next e => rw [if_pos e]; exact ⟨h.1, h.2.1, h.2.2.1, by omega, h.2.2.2.2.1, by omega⟩
  · next e => rw [if_neg e]; exact h
theorem repw_later {rs : List R5} {B W D : IM} {now n2 : Int} (h : RepW rs B W D now) (hn : now ≤ n2) : RepW rs B W D n2 := ⟨h.nod, h.inU, fun r hr => tie_later (h.get r hr) hn, h.out⟩
/-- one slot's row anew -/
theorem repw_put {rs : List R5} {B W D B' W' D' : IM} {now : Int} (h : RepW rs B W D now) {k : Str} (hk : k ∈ U4) (r0 : R5) (h0 : r0.nm = k) (ht : Tie B' W' D' now r0) (e1 : ∀ s, s ≠ k → B' s = B s) (e2 : ∀ s, s ≠ k → W' s = W s) (e3 : ∀ s, s ≠ k → D' s = D s) : RepW (rs.filter (neW k) ++ [r0]) B' W' D' now := by
  have hne : ∀ r ∈ rs.filter (neW k), r.nm ≠ k := fun r hr => neW_iff.mp (List.mem_filter.mp hr).2
  refine ⟨?_, fun r hr => ?_, fun r hr => ?_, fun s hs => ?_⟩
  · rw [List.map_append]
    refine List.nodup_append.mpr ⟨((List.filter_sublist (l := rs)).map (·.nm)).nodup h.nod, by simp, fun x hx y hy z => ?_⟩
    obtain ⟨r, hr, rfl⟩ := List.mem_map.mp hx
    simp only [List.map_cons, List.map_nil, List.mem_cons, List.not_mem_nil, or_false] at hy
    exact hne r hr ((z.trans hy).trans h0)
  · rcases List.mem_append.mp hr with hr | hr
    · exact h.inU r (List.mem_filter.mp hr).1
    · rw [List.mem_singleton] at hr; rw [hr, h0]; exact hk
  · rcases List.mem_append.mp hr with hr | hr
    · have hn := hne r hr
      exact tie_same (h.get r (List.mem_filter.mp hr).1) (e1 _ hn) (e2 _ hn) (e3 _ hn)
    · rw [List.mem_singleton] at hr
      rw [hr]
      exact ht
  · rw [List.map_append] at hs
    have hsk : s ≠ k := fun z => hs (List.mem_append.mpr (.inr (by simp [z, h0])))
    rw [e2 s hsk, e3 s hsk]
    refine h.out s fun hm => ?_
    obtain ⟨r, hr, rfl⟩ := List.mem_map.mp hm
    exact hs (List.mem_append.mpr (.inl (List.mem_map.mpr ⟨r, List.mem_filter.mpr ⟨hr, neW_iff.mpr hsk⟩, rfl⟩)))
theorem repw_drop {rs : List R5} {B W D : IM} {now : Int} (h : RepW rs B W D now) (k : Str) : RepW (rs.filter (neW k)) (unsF B k) (unsF W k) (unsF D k) now := by
  have hne : ∀ r ∈ rs.filter (neW k), r.nm ≠ k := fun r hr => neW_iff.mp (List.mem_filter.mp hr).2
  refine ⟨((List.filter_sublist (l := rs)).map (·.nm)).nodup h.nod, fun r hr => h.inU r (List.mem_filter.mp hr).1, fun r hr => ?_, fun s hs => ?_⟩
  · have hn := hne r hr
    exact tie_same (h.get r (List.mem_filter.mp hr).1) (unsF_ne hn) (unsF_ne hn) (unsF_ne hn)
  · by_cases e : s = k
    · rw [e, unsF_same, unsF_same]; exact ⟨rfl, rfl⟩
    · rw [unsF_ne e, unsF_ne e]
      refine h.out s fun hm => ?_
      obtain ⟨r, hr, rfl⟩ := List.mem_map.mp hm
      exact hs (List.mem_map.mpr ⟨r, List.mem_filter.mpr ⟨hr, neW_iff.mpr e⟩, rfl⟩)
/-- the row of a slot -/
def eqW (k : Str) (r : R5) : Bool := decide (V.str r.nm = V.str k)
def eqR (k : Str) (r : R2) : Bool := decide (V.str r.nm = V.str k)
theorem oneW {k : Str} : ∀ {rs : List R5}, (rs.map (·.nm)).Nodup → (rs.filter (eqW k) = [] ∧ k ∉ rs.map (·.nm)) ∨ ∃ r ∈ rs, r.nm = k ∧ rs.filter (eqW k) = [r]
  | [], _ => .inl ⟨rfl, by simp⟩
  | r :: rs, h => by
    rw [List.map_cons] at h
    obtain ⟨n1, n2⟩ := List.nodup_cons.mp h
    rcases oneW (k := k) n2 with ⟨h1, h2⟩ | ⟨r2, h1, h2, h3⟩
    · by_cases e : r.nm = k
      · exact .inr ⟨r, List.mem_cons_self, e, by rw [List.filter_cons_of_pos (by simp [eqW, e]), h1]⟩
      · exact .inl ⟨by rw [List.filter_cons_of_neg (by simp [eqW, e]), h1], by rw [List.map_cons, List.mem_cons]; exact fun z => z.elim (fun y => e y.symm) h2⟩
    · have e : r.nm ≠ k := fun e => n1 (by rw [e, ← h2]; exact List.mem_map_of_mem h1)
      exact .inr ⟨r2, List.mem_cons_of_mem _ h1, h2, by rw [List.filter_cons_of_neg (by simp [eqW, e]), h3]⟩
theorem sumR {rs : List R2} {f : IM} (h : RepR rs f) (k : Str) : ((rs.filter (eqR k)).map (·.bn)).sum = (f k).getD 0 := by
  have go : ∀ l : List R2, (l.map (·.nm)).Nodup → (∀ r ∈ l, f r.nm = some r.bn) → ((l.filter (eqR k)).map (·.bn)).sum = if k ∈ l.map (·.nm) then (f k).getD 0 else 0 := by
    intro l
    induction l with
    | nil => intro _ _; rfl
    | cons r l ih =>
      intro nd g
      rw [List.map_cons] at nd
      obtain ⟨n1, n2⟩ := List.nodup_cons.mp nd
      have i := ih n2 fun r hr => g r (List.mem_cons_of_mem _ hr)
      by_cases e : r.nm = k
      · have hk : k ∉ l.map (·.nm) := by rw [← e]; exact n1
        rw [if_neg hk] at i
        rw [List.filter_cons_of_pos (by simp [eqR, e]), List.map_cons, List.sum_cons, i, if_pos (by rw [List.map_cons, e]; exact List.mem_cons_self), ← e, g r List.mem_cons_self]
        simp
      · rw [List.filter_cons_of_neg (by simp [eqR, e]), i]
        have : (k ∈ (r :: l).map (·.nm)) ↔ k ∈ l.map (·.nm) := by
          rw [List.map_cons, List.mem_cons]
          exact ⟨fun h => h.resolve_left fun z => e z.symm, .inr⟩
        simp only [this]
  rw [go rs h.nod h.get]
  by_cases hk : k ∈ rs.map (·.nm)
  · rw [if_pos hk]
  · rw [if_neg hk]
    cases e : f k with
    | none => rfl
    | some x => exact absurd (h.all k (by rw [e]; rfl)) hk
theorem dps_make {K : PySem.W.Frag} {H : Hp} : ∀ ys : List Str, DpAll K H (ys.map V.str) (ys.map PyData.str)
  | [] => .nil
  | y :: ys => .cons (.str y) (dps_make ys)
theorem dps_back {K : PySem.W.Frag} {H : Hp} : ∀ {ys : List Str} {vs : List V}, DpAll K H vs (ys.map PyData.str) → vs = ys.map V.str
  | [], _, h => dpa_nil h
  | y :: ys, _, h => by
    obtain ⟨ws, rfl, h2⟩ := dpa_str h
    rw [dps_back h2]
    rfl
theorem dpi_back {K : PySem.W.Frag} {H : Hp} : ∀ {ys : List Int} {vs : List V}, DpAll K H vs (ys.map PyData.int) → vs = ys.map V.int
  | [], _, h => dpa_nil h
  | y :: ys, _, h => by
    obtain ⟨ws, rfl, h2⟩ := dpa_int h
    rw [dpi_back h2]
    rfl
theorem u4_ok : ∀ z ∈ U4, PyData.strOk z = true := by decide +kernel
theorem flat_u4 {ys : List Str} (h : ∀ y ∈ ys, y ∈ U4) : Flat 1 (.list (ys.map PyData.str)) := flat_list (n := 0) fun d hd => by
  obtain ⟨y, hy, rfl⟩ := List.mem_map.mp hd
  exact flat_str _ _ (u4_ok y (h y hy))
theorem ord_rep {rs : List R2} {f : IM} (h : RepR rs f) {ys zs : List Str} (hy : Ord (fun s => (f s).isSome) ys) (hp : zs.Perm (rs.map (·.nm))) (hs : sortedS zs = true) : zs = ys :=
  ord_uniq (f := fun s => (f s).isSome) ⟨hp.nodup_iff.mpr h.nod, hs, fun s => by rw [hp.mem_iff]; exact repr_mem h s⟩ hy
theorem ord_u4 {rs : List R2} {f : IM} (h : RepR rs f) {ys : List Str} (hy : Ord (fun s => (f s).isSome) ys) : ∀ y ∈ ys, y ∈ U4 := fun y hm => by
  have := h.all y ((hy.2.2 y).mp hm)
  obtain ⟨r, hr, rfl⟩ := List.mem_map.mp this
  exact h.inU r hr
theorem flatW {rs : List R5} (h : ∀ r ∈ rs, r.nm ∈ U4) : Flat 2 (.list (rs.map R5.d)) := flat_list (n := 1) fun d hd => by
  obtain ⟨r, hr, rfl⟩ := List.mem_map.mp hd
  refine flat_tup (n := 0) fun e he => ?_
  simp only [List.mem_cons, List.not_mem_nil, or_false] at he
  rcases he with rfl | rfl | rfl | rfl | rfl
  · exact flat_str _ _ (u4_ok _ (h r hr))
  · exact flat_int _ _
  · exact flat_int _ _
  · exact flat_int _ _
  · exact flat_bl _ _
def sp_rdeed (K : PySem.W.Frag) (C : Addr) : Sp := fun vs H Q _ => ∃ (p ab l dg : Addr) (xs : List V) (f : IM) (rs : List R2) (d0 d1 d2 d3 d4 : Int), vs = [.ref p, .ref l, .ref dg] ∧ RAt C H p ab f ∧ H l = some (.lst xs) ∧ DpAll K H xs (rs.map R2.d) ∧ RepR rs f ∧ H dg = some (.lst ([d0, d1, d2, d3, d4].map V.int)) ∧ (0 ≤ d1 ∧ d1 < 4) ∧
  ∀ ab' l' ys f' rs' H', RAt C H' p ab' f' → RepR rs' f' → H' l' = some (.lst ys) → DpAll K H' ys (rs'.map R2.d) → Fr [p, ab] H H' → (ab' = ab ∨ H ab' = none) → Q (.ref l') H'
def sp_ragree (K : PySem.W.Frag) (C : Addr) : Sp := fun vs H Q _ => ∃ (p ab l : Addr) (xs : List V) (f : IM) (rs : List R2), vs = [.ref p, .ref l] ∧ RAt C H p ab f ∧ H l = some (.lst xs) ∧ DpAll K H xs (rs.map R2.d) ∧ RepR rs f ∧ ∀ H', Same H H' → Q (.bl true) H'
def lawN (r : R5) (now : Int) : Int := if 32 ≤ now - r.bg then 1 else if (if 1 < r.wt + r.wt then r.wt + r.wt else 1) < 16 then (if 1 < r.wt + r.wt then r.wt + r.wt else 1) else 16
def failR (k : Str) (now n : Int) : R5 := ⟨k, now, n, now + n, false⟩
def sp_lfailed (K : PySem.W.Frag) : Sp := fun vs H Q _ => ∃ (v : V) (k : Str) (now n : Int), vs = [v, .str k, .int now] ∧ ((v = .non ∧ n = 1) ∨ ∃ r : R5, Dp K H v r.d ∧ (∃ a, v = .ref a) ∧ n = lawN r now) ∧ ∀ p H', H p = none → Same H H' → Dp K H' (.ref p) (failR k now n).d → Q (.ref p) H'
def sp_wdeed (K : PySem.W.Frag) (C : Addr) : Sp := fun vs H Q _ => ∃ (a : QP) (l dg : Addr) (xs : List V) (B W D : IM) (rs : List R5) (d0 d1 d2 d3 d4 now : Int), vs = [.ref a.p, .ref l, .ref dg, .int now] ∧ QAt C H a B W D ∧ H l = some (.lst xs) ∧ DpAll K H xs (rs.map R5.d) ∧ RepW rs B W D now ∧ H dg = some (.lst ([d0, d1, d2, d3, d4].map V.int)) ∧ (0 ≤ d1 ∧ d1 < 4) ∧
  ∀ l' ys B' W' D' rs' H', QAt C H' a B' W' D' → RepW rs' B' W' D' now → H' l' = some (.lst ys) → DpAll K H' ys (rs'.map R5.d) → Fr a.all H H' → Q (.ref l') H'
def sp_wagree (K : PySem.W.Frag) (C : Addr) : Sp := fun vs H Q _ => ∃ (a : QP) (l : Addr) (xs : List V) (B W D : IM) (rs : List R5) (now : Int), vs = [.ref a.p, .ref l, .int now] ∧ QAt C H a B W D ∧ H l = some (.lst xs) ∧ DpAll K H xs (rs.map R5.d) ∧ RepW rs B W D now ∧ ∀ H', Same H H' → Q (.bl true) H'
def sp_law (K : PySem.W.Frag) : Sp := fun vs H Q _ => ∃ (a : Addr) (ns : List Int), vs = [.ref a] ∧ SqL K H a (ns.map V.int) ∧ ns.length ≤ 63 ∧ ∀ H', Q (.bl true) H'
section
variable {P : Program} {w : World} {K : PySem.W.Frag} {mg : Str → Option Value} {base : Heap}
theorem ok__law_runs_deed (T : TX K mg) : FnOk P w K mg base CX0 2 T.a__law_runs_deed T.d__law_runs_deed ["runs", "rows", "digits"] (sp_rdeed K T.a_Runs) := by
  refine T.F__law_runs_deed.ok sc__law_runs_deed (fun vs H Q E h => ?_) (fun cdv A outer s H vs Q E hr h => ?_)
  · obtain ⟨p, ab, l, dg, xs, f, rs, d0, d1, d2, d3, d4, rfl, _⟩ := h
    rfl
  · obtain ⟨p, ab, l, dg, xs, f, rs, d0, d1, d2, d3, d4, rfl, hA, hl, hx, hR, hd, b1, c⟩ := h
    refine ⟨_, (pss_cons (ps_set (i := 3) sc__law_runs_deed.nd rfl (Or.inl rfl) (pe_lst (pa_cons pe_str (pa_cons pe_str (pa_cons pe_str (pa_cons pe_str pa_nil))))))
      (pss_cons (ps_set (i := 4) sc__law_runs_deed.nd rfl (Or.inr rfl) (pe_ix ix_list (pv 3) (pe_ix ix_list (pv 2) pe_int (fun _ _ => rfl)) (fun _ _ => rfl)))
      (pss_cons (ps_if (pt_cmpR op_lt (pe_ix ix_list (pv 2) pe_int (fun _ _ => rfl)) pe_int (nomark _)) (pss_cons (ps_expr (pe_meth (pv 0) T.K_Runs T.m_Runs_begin (ok_Runs_begin T) (hr.mono (by decide)) T.b_Runs_begin .nil pass0 (pa_cons (pv 4) (pa_cons (pe_op op_add pe_int (pe_ix ix_list (pv 2) pe_int (fun _ _ => rfl))) pa_nil))))
        (pss_one (ps_ret (pe_op op_cat (pe_lc (own := [("row", 5)]) (g := gName 5)  (by rfl) sc__law_runs_deed.nd (pi_list (pv 1)) (blkOk_by (own := [("row", 5)]) (N := ["runs", "rows", "digits", "names", "slot", "row"]) (sc := defScope s__law_runs_deed) (by decide +kernel)) (fun _ _ _ _ _ => pg_name (i := 5) sc__law_runs_deed.nd rfl (Or.inl rfl)) (fun _ _ _ _ _ => pts_one (pt_cmpR op_ne (pe_ix (ixK_tup (K := K) rfl) (pv 5) pe_int (fun _ _ => rfl)) (pv 4) (nomark _))) (fun _ _ _ _ _ => (pv 5))) (pe_lst (pa_cons (pe_tup (pa_cons (pv 4) (pa_cons (pe_op op_add pe_int (pe_ix ix_list (pv 2) pe_int (fun _ _ => rfl))) pa_nil))) pa_nil)))))) pss_nil)
      (pss_cons (ps_if (pt_cmpR op_lt (pe_ix ix_list (pv 2) pe_int (fun _ _ => rfl)) pe_int (nomark _)) (pss_cons (ps_expr (pe_meth (pv 0) T.K_Runs T.m_Runs_end (ok_Runs_end T) (hr.mono (by decide)) T.b_Runs_end .nil pass0 (pa_cons (pv 4) pa_nil)))
        (pss_one (ps_ret (pe_lc (own := [("row", 5)]) (g := gName 5)  (by rfl) sc__law_runs_deed.nd (pi_list (pv 1)) (blkOk_by (own := [("row", 5)]) (N := ["runs", "rows", "digits", "names", "slot", "row"]) (sc := defScope s__law_runs_deed) (by decide +kernel)) (fun _ _ _ _ _ => pg_name (i := 5) sc__law_runs_deed.nd rfl (Or.inl rfl)) (fun _ _ _ _ _ => pts_one (pt_cmpR op_ne (pe_ix (ixK_tup (K := K) rfl) (pv 5) pe_int (fun _ _ => rfl)) (pv 4) (nomark _))) (fun _ _ _ _ _ => (pv 5)))))) pss_nil)
      (pss_cons (ps_if (pt_cmpR op_eq (pe_ix ix_list (pv 2) pe_int (fun _ _ => rfl)) pe_int (nomark _)) (pss_cons (ps_expr (pe_meth0 (pv 0) T.K_Runs T.m_Runs_end_all (ok_Runs_end_all T) (hr.mono (by decide)) T.b_Runs_end_all .nil pass0))
        (pss_one (ps_ret (pe_lst pa_nil)))) pss_nil)
      (pss_one (ps_ret (pv 1)))))))), ?_⟩
    have hrl := repr_len hR
    refine nrm6 rfl ?_
    refine ⟨(by show 4 ≤ sizeLine; decide), fun t1 ht1 => ?_⟩
    have s2 := same_upd (o := .lst (U4.map V.str)) ht1
    have e1 := upd_same (H := H) (a := t1) (o := .lst (U4.map V.str))
    refine (show gName 3 (V.ref t1) _ (upd H t1 (.lst (U4.map V.str))) _ from ?_)
    generalize upd H t1 (.lst (U4.map V.str)) = H2 at s2 e1
    have hA := hA.same s2
    have hl := s2 _ _ hl
    have hd := s2 _ _ hd
    have hx := dpa_same s2 _ hx
    have hfr : Fr [p, ab] H H2 := Fr.of_same s2
    have hfree : ∀ x, H2 x = none → H x = none := fun x h => s2.free h
    clear ht1
    refine gnm6 rfl ?_
    obtain ⟨k, hk, hkat⟩ := at_strs (zs := U4) (i := d1) b1.1 (by show d1 < 4; omega)
    refine ⟨_, rfl, _, rfl, dg, _, 1, _, rfl, rfl, sql hd, atI_nat (j := 1) rfl, t1, _, d1, .str k, rfl, rfl, sql e1, hkat, ?_⟩
    refine gnm6 rfl ?_
    obtain ⟨dx, ob⟩ := hA.ob
    have nq := hA.noseq
    have nn : ∀ {b : Addr} {xs : List V}, H2 b = some (.lst xs) → b ∉ [p, ab] := fun {b xs} h z => (nq b z _ (.inl h)).1 xs rfl
    refine ⟨_, rfl, dg, _, 0, _, rfl, rfl, sql hd, atI_nat (j := 0) rfl, _, _, rfl, rfl, _, rfl, ifd (fun h0 => ?_) (fun h0 => ?_)⟩
    · refine ⟨_, rfl, p, dx, _, rfl, ob, fl_Runs_no_begin, _, rfl, _, rfl, dg, _, 2, _, rfl, rfl, sql hd, atI_nat (j := 2) rfl, _, _, rfl, rfl, ?_⟩
      refine ⟨p, ab, f, k, 1 + d2, rfl, hA, hk, fun H3 hA3 f3 => ?_⟩
      have hl3 := f3 _ _ hl (nn hl)
      have hd3 := f3 _ _ hd (nn hd)
      have hx3 := dpa_fr nq f3 _ hx
      refine ⟨_, rfl, l, rfl, ⟨_, sql hl3⟩, fun D hD => ?_⟩
      refine lcd (K := K) rs R2.d (fun e => if neR k e = true then some e.d else none) hD (sql hl3) hx3 (by omega) ?_ ?_
      · intro v e G he s4 _ hdp J j1 j2
        obtain ⟨p, v0, v1, rfl, ht, ⟨⟩, ⟨⟩⟩ := dp_t2 hdp
        have ht := sqt_same s4 ht
        refine ⟨rfl, _, rfl, p, _, 0, _, rfl, rfl, ht, atI_nat (j := 0) rfl, _, rfl, rfl, _, rfl, ifn (fun h => ?_) (fun h => ?_)⟩
        · exact ⟨_, rfl, j2 _ _ G (Same.refl _) (fun G'' s7 _ => dp_same s7 _ hdp) (if_pos (neR_iff.mpr fun z => h (by rw [z])))⟩
        · exact j1 _ (Same.refl _) (if_neg fun z => neR_iff.mp z (V.str.inj h))
      intro H4 ys s4 e4 h4
      rw [fm_if] at h4
      have hyl := dpa_len h4
      rw [List.length_map] at hyl
      have hfl : (rs.filter (neR k)).length ≤ rs.length := List.length_filter_le _ _
      refine ⟨_, rfl, _, rfl, dg, _, 2, _, rfl, rfl, sql (s4 _ _ hd3), atI_nat (j := 2) rfl, _, _, rfl, rfl, (by show 2 ≤ sizeLine; decide), fun u hu => ⟨(by show 1 ≤ sizeLine; decide), fun t ht => ?_⟩⟩
      have s5 := same_upd (o := .tup [.str k, .int (1 + d2)]) hu
      have s6 := same_upd (o := .lst [.ref u]) ht
      have s56 := s5.trans s6
      have du : Dp K (upd (upd H4 u (.tup [.str k, .int (1 + d2)])) t (.lst [.ref u])) (.ref u) (R2.d ⟨k, 1 + d2⟩) := .tup (sqt_same s6 (sqt upd_same)) (.cons (.str _) (.cons (.int _) .nil))
      refine ⟨D, t, ys, [.ref u], rfl, rfl, s56 _ _ e4, upd_same, sz (by simp only [List.length_cons, List.length_nil]; omega), fun p9 hp9 => ?_⟩
      have s7 := same_upd (o := .lst (ys ++ [.ref u])) hp9
      refine c ab p9 (ys ++ [.ref u]) _ (rs.filter (neR k) ++ [⟨k, 1 + d2⟩]) _ (((hA3.same s4).same s56).same s7) (repr_put hR hk _) upd_same ?_ ((hfr.trans f3).trans (Fr.of_same ((s4.trans s56).trans s7))) (.inl rfl)
      rw [List.map_append]
      exact dpa_app (dpa_same (s56.trans s7) _ h4) (.cons (dp_same s7 _ du) .nil)
    refine ⟨_, rfl, dg, _, 0, _, rfl, rfl, sql hd, atI_nat (j := 0) rfl, _, _, rfl, rfl, _, rfl, ifd (fun h1 => ?_) (fun h1 => ?_)⟩
    · refine ⟨_, rfl, p, dx, _, rfl, ob, fl_Runs_no_end, _, rfl, p, ab, f, k, rfl, hA, fun vv H3 hA3 f3 => ?_⟩
      have hl3 := f3 _ _ hl (nn hl)
      have hx3 := dpa_fr nq f3 _ hx
      refine ⟨_, rfl, l, rfl, ⟨_, sql hl3⟩, fun D hD => ?_⟩
      refine lcd (K := K) rs R2.d (fun e => if neR k e = true then some e.d else none) hD (sql hl3) hx3 (by omega) ?_ ?_
      · intro v e G he s4 _ hdp J j1 j2
        obtain ⟨p, v0, v1, rfl, ht, ⟨⟩, ⟨⟩⟩ := dp_t2 hdp
        have ht := sqt_same s4 ht
        refine ⟨rfl, _, rfl, p, _, 0, _, rfl, rfl, ht, atI_nat (j := 0) rfl, _, rfl, rfl, _, rfl, ifn (fun h => ?_) (fun h => ?_)⟩
        · exact ⟨_, rfl, j2 _ _ G (Same.refl _) (fun G'' s7 _ => dp_same s7 _ hdp) (if_pos (neR_iff.mpr fun z => h (by rw [z])))⟩
        · exact j1 _ (Same.refl _) (if_neg fun z => neR_iff.mp z (V.str.inj h))
      intro H4 ys s4 e4 h4
      rw [fm_if] at h4
      exact c ab D ys _ _ _ (hA3.same s4) (repr_drop hR k) e4 h4 ((hfr.trans f3).trans (Fr.of_same s4)) (.inl rfl)
    refine ⟨_, rfl, dg, _, 0, _, rfl, rfl, sql hd, atI_nat (j := 0) rfl, rfl, _, rfl, ifd (fun h2 => ?_) (fun h2 => ?_)⟩
    · refine ⟨_, rfl, p, dx, _, rfl, ob, fl_Runs_no_end_all, p, ab, f, rfl, hA, fun ab' H3 hf hA3 f3 => ?_⟩
      refine ⟨Nat.zero_le _, fun t ht => ?_⟩
      have s4 := same_upd (o := .lst []) ht
      exact c ab' t [] _ [] _ (hA3.same s4) repr_nil upd_same .nil ((hfr.trans f3).trans (Fr.of_same s4)) (.inr (hfree _ hf))
    · exact ⟨_, rfl, c ab l xs _ _ _ hA hR hl hx hfr (.inl rfl)⟩
theorem ok__law_runs_agree (T : TX K mg) : FnOk P w K mg base CX0 2 T.a__law_runs_agree T.d__law_runs_agree ["runs", "rows"] (sp_ragree K T.a_Runs) := by
  refine T.F__law_runs_agree.ok sc__law_runs_agree (fun vs H Q E h => ?_) (fun cdv A outer s H vs Q E hr h => ?_)
  · obtain ⟨p, ab, l, xs, f, rs, rfl, _⟩ := h
    rfl
  · obtain ⟨p, ab, l, xs, f, rs, rfl, hA, hl, hx, hR, c⟩ := h
    refine ⟨_, (pss_cons (ps_set (i := 2) sc__law_runs_agree.nd rfl (Or.inl rfl) (pe_meth0 (pv 0) T.K_Runs T.m_Runs_slots (ok_Runs_slots T) (hr.mono (by decide)) T.b_Runs_slots .nil pass0))
      (pss_cons (ps_if (pt_cmpR (op_neD hr.units) (pv 2) (pe_callB cr_sortedS (by rfl) T.n_sorted (by decide +kernel) (pa_cons (pe_lc (own := [("row", 5)]) (g := gName 5) (tt := tYes) (by rfl) sc__law_runs_agree.nd (pi_list (pv 1)) (blkOk_by (own := [("row", 5)]) (N := ["runs", "rows", "told", "slot", "due", "row"]) (sc := defScope s__law_runs_agree) (by decide +kernel)) (fun _ _ _ _ _ => pg_name (i := 5) sc__law_runs_agree.nd rfl (Or.inl rfl)) (fun _ _ _ _ _ => pts_nil) (fun _ _ _ _ _ => (pe_ix (ixK_tup (K := K) rfl) (pv 5) pe_int (fun _ _ => rfl)))) pa_nil)) (nomark _)) (pss_one (ps_ret pe_bl)) pss_nil)
      (pss_cons (ps_expr (pe_bm PySem.F.plainAttrs_list PySem.F.slot_list_append PySem.F.type_list_append mt_append (pv 2) (pa_cons pe_str pa_nil)))
      (pss_cons (ps_for PassesOwn.never rfl (pi_list (pe_lst (pa_cons pe_str (pa_cons pe_str (pa_cons pe_str (pa_cons pe_str (pa_cons pe_str pa_nil))))))) (pg_name (i := 3) sc__law_runs_agree.nd rfl (Or.inr rfl))
        (pss_cons (ps_set (i := 4) sc__law_runs_agree.nd rfl (Or.inl rfl) (pe_callB (cr_sum rfl) (by rfl) T.n_sum (by decide +kernel) (pa_cons (pe_lc (own := [("row", 5)]) (g := gName 5)  (by rfl) sc__law_runs_agree.nd (pi_list (pv 1)) (blkOk_by (own := [("row", 5)]) (N := ["runs", "rows", "told", "slot", "due", "row"]) (sc := defScope s__law_runs_agree) (by decide +kernel)) (fun _ _ _ _ _ => pg_name (i := 5) sc__law_runs_agree.nd rfl (Or.inl rfl)) (fun _ _ _ _ _ => pts_one (pt_cmpR op_eq (pe_ix (ixK_tup (K := K) rfl) (pv 5) pe_int (fun _ _ => rfl)) (pv 3) (nomark _))) (fun _ _ _ _ _ => (pe_ix (ixK_tup (K := K) rfl) (pv 5) pe_int (fun _ _ => rfl)))) pa_nil)))
        (pss_one (ps_if (pt_cmpR op_ne (pe_meth (pv 0) T.K_Runs T.m_Runs_born_of (ok_Runs_born_of T) (hr.mono (by decide)) T.b_Runs_born_of .nil pass0 (pa_cons (pv 3) pa_nil)) (pv 4) (nomark _)) (pss_one (ps_ret pe_bl)) pss_nil))))
      (pss_one (ps_ret (pe_cmpR (op_eqD hr.units) (pe_meth0 (pv 0) T.K_Runs T.m_Runs_slots (ok_Runs_slots T) (hr.mono (by decide)) T.b_Runs_slots .nil pass0) (pe_callB cr_sortedS (by rfl) T.n_sorted (by decide +kernel) (pa_cons (pe_lc (own := [("row", 5)]) (g := gName 5) (tt := tYes) (by rfl) sc__law_runs_agree.nd (pi_list (pv 1)) (blkOk_by (own := [("row", 5)]) (N := ["runs", "rows", "told", "slot", "due", "row"]) (sc := defScope s__law_runs_agree) (by decide +kernel)) (fun _ _ _ _ _ => pg_name (i := 5) sc__law_runs_agree.nd rfl (Or.inl rfl)) (fun _ _ _ _ _ => pts_nil) (fun _ _ _ _ _ => (pe_ix (ixK_tup (K := K) rfl) (pv 5) pe_int (fun _ _ => rfl)))) pa_nil)) (nomark _)))))))), ?_⟩
    have hrl := repr_len hR
    obtain ⟨dx, ob⟩ := hA.ob
    refine nrm6 rfl ?_
    refine ⟨_, rfl, p, dx, _, rfl, ob, fl_Runs_no_slots, p, ab, f, rfl, hA, fun ys L H1 hO hL s1 eL => ?_⟩
    refine gnm6 rfl ?_
    have fy := flat_u4 (ord_u4 hR hO)
    refine ⟨_, rfl, _, rfl, l, rfl, ⟨_, sql (s1 _ _ hl)⟩, fun D hD => ?_⟩
    refine lcd (K := K) rs R2.d (fun e => some (.str e.nm)) hD (sql (s1 _ _ hl)) (dpa_same s1 _ hx) (by omega) ?_ ?_
    · intro v e G he s4 _ hdp J j1 j2
      obtain ⟨p, v0, v1, rfl, ht, ⟨⟩, ⟨⟩⟩ := dp_t2 hdp
      have ht := sqt_same s4 ht
      refine ⟨rfl, ?_⟩
      dsimp only [tYes]
      refine (if_pos rfl).mpr ?_
      exact ⟨_, rfl, p, _, 0, _, rfl, rfl, ht, atI_nat (j := 0) rfl, j2 _ _ G (Same.refl _) (fun _ _ _ => .str _) rfl⟩
    intro H2 vs2 s2 e2 h2
    rw [fm_some (fun e : R2 => PyData.str e.nm)] at h2
    have hm : rs.map (fun e : R2 => PyData.str e.nm) = (rs.map (·.nm)).map PyData.str := by rw [List.map_map]; rfl
    rw [hm] at h2
    rw [dps_back h2] at e2
    refine ⟨D, _, rfl, sql e2, by rw [List.length_map]; omega, fun zs p2 hp hs hp2 => ?_⟩
    have hzy := ord_rep hR hO hp hs
    subst hzy
    have s3 := same_upd (o := .lst (zs.map V.str)) hp2
    refine ⟨.list (zs.map .str), .list (zs.map .str), .lst (sql (s3 _ _ (s2 _ _ eL))) (dps_make _), .lst (sql upd_same) (dps_make _), fy.sh (by decide), fy.sh (by decide), _, rfl, ifbf (by rw [eqv_self (fy.sh (by decide))]; rfl) ?_⟩
    have s4 := (s1.trans s2).trans s3
    have eL3 := s3 _ _ (s2 _ _ eL)
    refine ⟨_, rfl, .inl ⟨rfl, _, sql eL3⟩, L, _, _, rfl, rfl, eL3, szl (by have := (hp.length_eq); rw [List.length_map] at this; rw [List.length_map]; omega), ?_⟩
    have s10 : Same H (upd (upd H2 p2 (.lst (zs.map V.str))) L (.lst (zs.map V.str ++ [.str "x/0"]))) := same_put s4 hL
    generalize upd (upd H2 p2 (.lst (zs.map V.str))) L (.lst (zs.map V.str ++ [.str "x/0"])) = H10 at s10
    clear s4 s3 s2 s1 hD hp2 hL
    refine ⟨(by show 5 ≤ sizeLine; decide), fun l1 hl1 => ⟨l1, rfl, ⟨_, sql upd_same⟩, ?_⟩⟩
    refine for_list (K := K) (a := l1) (xs := ([Str.ofString "web/0", Str.ofString "web/1", Str.ofString "db/0", Str.ofString "a/9", Str.ofString "b/0"] : List Str).map V.str) (fun j σ G => ∃ x3 x4, σ = [some (.ref p), some (.ref l), some (.ref L), x3, x4, none] ∧ Same H G ∧ G l1 = some (.lst (([Str.ofString "web/0", Str.ofString "web/1", Str.ofString "db/0", Str.ofString "a/9", Str.ofString "b/0"] : List Str).map V.str)))
      ⟨none, none, rfl, s10.trans (same_upd hl1), upd_same⟩ (fun _ _ _ _ ⟨_, _, _, _, h⟩ => sql h) ?_ ?_
    · rintro j x σ G hxj ⟨x3, x4, rfl, g1, g2⟩
      obtain ⟨k, _, rfl⟩ := map_at hxj
      refine gnm6 rfl ?_
      refine ⟨_, rfl, l, rfl, ⟨_, sql (g1 _ _ hl)⟩, fun D hD => ?_⟩
      refine lcd (K := K) rs R2.d (fun e => if eqR k e = true then some (.int e.bn) else none) hD (sql (g1 _ _ hl)) (dpa_same g1 _ hx) (by omega) ?_ ?_
      · intro v e G he s4 _ hdp J j1 j2
        obtain ⟨p, v0, v1, rfl, ht, ⟨⟩, ⟨⟩⟩ := dp_t2 hdp
        have ht := sqt_same s4 ht
        refine ⟨rfl, _, rfl, p, _, 0, _, rfl, rfl, ht, atI_nat (j := 0) rfl, _, rfl, rfl, _, rfl, ifd (fun h => ?_) (fun h => ?_)⟩
        · exact ⟨_, rfl, p, _, 1, _, rfl, rfl, ht, atI_nat (j := 1) rfl, j2 _ _ G (Same.refl _) (fun _ _ _ => .int _) (if_pos (decide_eq_true h))⟩
        · exact j1 _ (Same.refl _) (if_neg (by simpa [eqR] using h))
      intro G4 vs4 s4 e4 h4
      rw [fm_if] at h4
      have hmm : (rs.filter (eqR k)).map (fun e : R2 => PyData.int e.bn) = ((rs.filter (eqR k)).map (·.bn)).map PyData.int := by rw [List.map_map]; rfl
      rw [hmm] at h4
      rw [dpi_back h4] at e4
      refine ⟨D, _, rfl, sql e4, ?_⟩
      refine gnm6 rfl ?_
      have g5 := g1.trans s4
      refine ⟨_, rfl, p, dx, _, rfl, g5 _ _ ob, fl_Runs_no_born_of, _, rfl, p, ab, f, k, rfl, hA.same g5, _, rfl, rfl, _, rfl, ifnt (congrArg V.int (sumR hR k).symm) ?_⟩
      exact ⟨_, _, rfl, g5, s4 _ _ g2⟩
    rintro σ G ⟨x3, x4, rfl, g1, g2⟩
    refine nrm6 rfl ?_
    have hA5 := hA.same g1
    refine ⟨_, rfl, p, dx, _, rfl, g1 _ _ ob, fl_Runs_no_slots, p, ab, f, rfl, hA5, fun ys L2_ H6 hO6 hL6 s6 eL6 => ?_⟩
    have s7 := g1.trans s6
    refine ⟨_, rfl, l, rfl, ⟨_, sql (s7 _ _ hl)⟩, fun D6 hD6 => ?_⟩
    refine lcd (K := K) rs R2.d (fun e => some (.str e.nm)) hD6 (sql (s7 _ _ hl)) (dpa_same s7 _ hx) (by omega) ?_ ?_
    · intro v e G he s4 _ hdp J j1 j2
      obtain ⟨p, v0, v1, rfl, ht, ⟨⟩, ⟨⟩⟩ := dp_t2 hdp
      have ht := sqt_same s4 ht
      refine ⟨rfl, ?_⟩
      dsimp only [tYes]
      refine (if_pos rfl).mpr ?_
      exact ⟨_, rfl, p, _, 0, _, rfl, rfl, ht, atI_nat (j := 0) rfl, j2 _ _ G (Same.refl _) (fun _ _ _ => .str _) rfl⟩
    intro H8 vs8 s8 e8 h8
    rw [fm_some (fun e : R2 => PyData.str e.nm), hm] at h8
    rw [dps_back h8] at e8
    refine ⟨D6, _, rfl, sql e8, by rw [List.length_map]; omega, fun zs9 p9 hp9 hs9 hpn9 => ?_⟩
    have hzy9 := ord_rep hR hO6 hp9 hs9
    subst hzy9
    have fy9 := flat_u4 (ord_u4 hR hO6)
    have s9 := same_upd (o := .lst (zs9.map V.str)) hpn9
    refine ⟨.list (zs9.map .str), .list (zs9.map .str), .lst (sql (s9 _ _ (s8 _ _ eL6))) (dps_make _), .lst (sql upd_same) (dps_make _), fy9.sh (by decide), fy9.sh (by decide), ?_⟩
    rw [eqv_self (fy9.sh (by decide))]
    exact c _ ((s7.trans s8).trans s9)
end
theorem lawN_next {B W D : IM} {now : Int} {r : R5} (h : Tie B W D now r) (hr : r.rn = true) : nextW B W r.nm now = lawN r now := by
  unfold Tie at h
  rw [if_pos hr] at h
  obtain ⟨h1, h2, h3, h4, h5, h6⟩ := h
  unfold nextW lawN
  rw [h2, h1]
  by_cases e : r.wt = 0
  · rw [if_pos e, e]
    show (1 : Int) = _
    split
    · rfl
    · rfl
  · rw [if_neg e]
    show (if 32 ≤ now - r.bg then (1 : Int) else if 2 * r.wt < 16 then 2 * r.wt else 16) = _
    split
    · rfl
    · have h2w : 1 < r.wt + r.wt := by omega
      have : 2 * r.wt = r.wt + r.wt := by omega
      rw [this, if_pos h2w]
theorem nextW_pos {B W : IM} {k : Str} {now : Int} (h : ∀ x, W k = some x → 1 ≤ x) : 1 ≤ nextW B W k now := by
  unfold nextW
  cases e : W k with
  | none => exact Int.le_refl _
  | some x =>
    have := h x e
    show (1 : Int) ≤ if 32 ≤ now - (B k).getD now then 1 else if 2 * x < 16 then 2 * x else 16
    split
    · omega
    · split <;> omega
section
variable {P : Program} {w : World} {K : PySem.W.Frag} {mg : Str → Option Value} {base : Heap}
theorem ok__law_failed (T : TX K mg) : FnOk P w K mg base CX0 1 T.a__law_failed T.d__law_failed ["row", "slot", "now"] (sp_lfailed K) := by
  refine T.F__law_failed.ok sc__law_failed (fun vs H Q E h => ?_) (fun cdv A outer s H vs Q E hr h => ?_)
  · obtain ⟨v, k, now, n, rfl, _⟩ := h
    rfl
  · obtain ⟨v, k, now, n, rfl, hv, c⟩ := h
    refine ⟨_, (pss_cons (ps_if (PW.pt (pw_or (pt_cmpR op_isN (pv 0) pe_non (nomark _)) (pw_or1 (pt_cmpR op_ge (pe_op op_sub (pv 2) (pe_ix ix_tup (pv 0) pe_int (fun _ _ => rfl))) pe_int (nomark _))))) (pss_one (ps_ret (pe_tup (pa_cons (pv 1) (pa_cons (pv 2) (pa_cons pe_int (pa_cons (pe_op op_add (pv 2) pe_int) (pa_cons pe_bl pa_nil)))))))) pss_nil)
      (pss_cons (ps_set (i := 3) sc__law_failed.nd rfl (Or.inl rfl) (pe_callB (call_min2 rfl) (by rfl) T.n_min (by decide +kernel) (pa_cons pe_int (pa_cons (pe_callB (call_max2 rfl) (by rfl) T.n_max (by decide +kernel) (pa_cons pe_int (pa_cons (pe_op op_add (pe_ix ix_tup (pv 0) pe_int (fun _ _ => rfl)) (pe_ix ix_tup (pv 0) pe_int (fun _ _ => rfl))) pa_nil))) pa_nil))))
      (pss_one (ps_ret (pe_tup (pa_cons (pv 1) (pa_cons (pv 2) (pa_cons (pv 3) (pa_cons (pe_op op_add (pv 2) (pv 3)) (pa_cons pe_bl pa_nil)))))))))), ?_⟩
    rcases hv with ⟨rfl, rfl⟩ | ⟨r, hd, ⟨av, rfl⟩, rfl⟩
    · refine ⟨_, rfl, rfl, _, rfl, ift rfl ?_⟩
      refine ⟨_, rfl, _, rfl, _, rfl, _, _, rfl, rfl, (by show 5 ≤ sizeLine; decide), fun p hp => ?_⟩
      exact c p _ hp (same_upd hp) (.tup (sqt upd_same) (.cons (.str _) (.cons (.int _) (.cons (.int _) (.cons (.int _) (.cons (.bl _) .nil))))))
    · obtain ⟨pr, v0, v1, v2, v3, v4, epr, ht, ⟨⟩, ⟨⟩, ⟨⟩, ⟨⟩, ⟨⟩⟩ := dp_t5 hd
      cases epr
      refine ⟨_, rfl, rfl, _, rfl, iff0 (by intro z; cases z) ?_⟩
      refine ⟨_, rfl, _, rfl, av, _, 1, _, rfl, rfl, ht, atI_nat (j := 1) rfl, _, _, rfl, rfl, _, _, rfl, rfl, _, rfl, ifd (fun h => ?_) (fun h => ?_)⟩
      · refine ⟨_, rfl, _, rfl, _, rfl, _, _, rfl, rfl, (by show 5 ≤ sizeLine; decide), fun p hp => ?_⟩
        have e : lawN r now = 1 := by unfold lawN; rw [if_pos h]
        rw [e] at c
        exact c p _ hp (same_upd hp) (.tup (sqt upd_same) (.cons (.str _) (.cons (.int _) (.cons (.int _) (.cons (.int _) (.cons (.bl _) .nil))))))
      · have e : lawN r now = if (if 1 < r.wt + r.wt then r.wt + r.wt else 1) < 16 then (if 1 < r.wt + r.wt then r.wt + r.wt else 1) else 16 := by unfold lawN; rw [if_neg h]
        refine ⟨_, rfl, av, _, 2, _, rfl, rfl, ht, atI_nat (j := 2) rfl, _, rfl, av, _, 2, _, rfl, rfl, ht, atI_nat (j := 2) rfl, _, _, rfl, rfl, _, _, rfl, _, _, rfl, ?_⟩
        dsimp only
        rw [e] at c
        generalize (if (if 1 < r.wt + r.wt then r.wt + r.wt else 1) < 16 then (if 1 < r.wt + r.wt then r.wt + r.wt else 1) else 16) = n at c
        refine ⟨_, rfl, _, rfl, _, rfl, _, rfl, _, rfl, _, _, rfl, rfl, (by show 5 ≤ sizeLine; decide), fun p hp => ?_⟩
        exact c p _ hp (same_upd hp) (.tup (sqt upd_same) (.cons (.str _) (.cons (.int _) (.cons (.int _) (.cons (.int _) (.cons (.bl _) .nil))))))
theorem ok__law_waits_agree (T : TX K mg) : FnOk P w K mg base CX0 2 T.a__law_waits_agree T.d__law_waits_agree ["restarts", "rows", "now"] (sp_wagree K T.a_Restarts) := by
  refine T.F__law_waits_agree.ok sc__law_waits_agree (fun vs H Q E h => ?_) (fun cdv A outer s H vs Q E hr h => ?_)
  · obtain ⟨a, l, xs, B, W, D, rs, now, rfl, _⟩ := h
    rfl
  · obtain ⟨a, l, xs, B, W, D, rs, now, rfl, hA, hl, hx, hR, c⟩ := h
    refine ⟨_, (pss_cons (ps_for PassesOwn.never rfl (pi_list (pe_lst (pa_cons pe_str (pa_cons pe_str (pa_cons pe_str (pa_cons pe_str (pa_cons pe_str pa_nil))))))) (pg_name (i := 3) sc__law_waits_agree.nd rfl (Or.inr rfl))
        (pss_one (ps_for PassesOwn.never rfl (pi_list (pe_lst (pa_cons pe_int (pa_cons pe_int (pa_cons pe_int (pa_cons pe_int (pa_cons pe_int pa_nil))))))) (pg_name (i := 4) sc__law_waits_agree.nd rfl (Or.inr rfl))
          (pss_cons (ps_set (i := 5) sc__law_waits_agree.nd rfl (Or.inl rfl) (pe_cmpR (op_eqD hr.units) (pe_lc (own := [("row", 6)]) (g := gName 6)  (by rfl) sc__law_waits_agree.nd (pi_list (pv 1)) (blkOk_by (own := [("row", 6)]) (N := ["restarts", "rows", "now", "slot", "later", "due", "row"]) (sc := defScope s__law_waits_agree) (by decide +kernel)) (fun _ _ _ _ _ => pg_name (i := 6) sc__law_waits_agree.nd rfl (Or.inl rfl)) (fun _ _ _ _ _ => pts_one (PW.pt (pw_and (pt_cmpR op_eq (pe_ix (ixK_tup (K := K) rfl) (pv 6) pe_int (fun _ _ => rfl)) (pv 3) (nomark _)) (pw_and1 (pt_cmpR op_gt (pe_ix (ixK_tup (K := K) rfl) (pv 6) pe_int (fun _ _ => rfl)) (pe_op op_add (pv 2) (pv 4)) (nomark _)))))) (fun _ _ _ _ _ => (pv 6))) (pe_lst pa_nil) (nomark _)))
          (pss_one (ps_if (pt_cmpR op_ne (pe_meth (pv 0) T.K_Restarts T.m_Restarts_is_due (ok_Restarts_is_due T) (hr.mono (by decide)) T.b_Restarts_is_due .nil pass0 (pa_cons (pv 3) (pa_cons (pe_op op_add (pv 2) (pv 4)) pa_nil))) (pv 5) (nomark _)) (pss_one (ps_ret pe_bl)) pss_nil))))))
      (pss_one (ps_ret pe_bl))), ?_⟩
    have hrl := repw_len hR
    obtain ⟨dx, ob⟩ := hA.ob
    refine nrm7 rfl ?_
    refine ⟨(by show 5 ≤ sizeLine; decide), fun l1 hl1 => ⟨l1, rfl, ⟨_, sql upd_same⟩, ?_⟩⟩
    refine for_list (K := K) (a := l1) (xs := ([Str.ofString "web/0", Str.ofString "web/1", Str.ofString "db/0", Str.ofString "a/9", Str.ofString "b/0"] : List Str).map V.str) (fun j σ G => ∃ x3 x4 x5, σ = [some (.ref a.p), some (.ref l), some (.int now), x3, x4, x5, none] ∧ Same H G ∧ G l1 = some (.lst (([Str.ofString "web/0", Str.ofString "web/1", Str.ofString "db/0", Str.ofString "a/9", Str.ofString "b/0"] : List Str).map V.str)))
      ⟨none, none, none, rfl, same_upd hl1, upd_same⟩ (fun _ _ _ _ ⟨_, _, _, _, _, h⟩ => sql h) ?_ ?_
    · rintro j x σ G hxj ⟨x3, x4, x5, rfl, g1, g2⟩
      obtain ⟨k, _, rfl⟩ := map_at hxj
      refine gnm7 rfl ?_
      refine ⟨(by show 5 ≤ sizeLine; decide), fun l2 hl2 => ⟨l2, rfl, ⟨_, sql upd_same⟩, ?_⟩⟩
      refine for_list (K := K) (a := l2) (xs := ([0, 1, 2, 15, 16] : List Int).map V.int) (fun j σ G => ∃ x4 x5, σ = [some (.ref a.p), some (.ref l), some (.int now), some (.str k), x4, x5, none] ∧ Same H G ∧ G l1 = some (.lst (([Str.ofString "web/0", Str.ofString "web/1", Str.ofString "db/0", Str.ofString "a/9", Str.ofString "b/0"] : List Str).map V.str)) ∧ G l2 = some (.lst (([0, 1, 2, 15, 16] : List Int).map V.int)))
        ⟨_, _, rfl, g1.trans (same_upd hl2), by rw [upd_ne (ne_of_none g2 hl2)]; exact g2, upd_same⟩ (fun _ _ _ _ ⟨_, _, _, _, _, h⟩ => sql h) ?_ ?_
      · rintro j x σ G hxj ⟨x4, x5, rfl, k1, k2, k3⟩
        obtain ⟨la, hla, rfl⟩ := map_at hxj
        have hla0 : 0 ≤ la := by
          have := List.mem_of_getElem? hla
          simp only [List.mem_cons, List.not_mem_nil, or_false] at this
          omega
        refine gnm7 rfl ?_
        refine ⟨_, rfl, l, rfl, ⟨_, sql (k1 _ _ hl)⟩, fun D1 hD1 => ?_⟩
        refine lcd (K := K) rs R5.d (fun e => if (eqW k e && decide (now + la < e.du)) = true then some e.d else none) hD1 (sql (k1 _ _ hl)) (dpa_same k1 _ hx) (by omega) ?_ ?_
        · intro v e G he s4 _ hdp J j1 j2
          obtain ⟨p, v0, v1, v2, v3, v4, rfl, ht, ⟨⟩, ⟨⟩, ⟨⟩, ⟨⟩, ⟨⟩⟩ := dp_t5 hdp
          have ht := sqt_same s4 ht
          refine ⟨rfl, _, rfl, p, _, 0, _, rfl, rfl, ht, atI_nat (j := 0) rfl, _, rfl, rfl, _, rfl, ifd (fun h => ?_) (fun h => ifbf rfl (j1 _ (Same.refl _) (if_neg (by simp [eqW, h]))))⟩
          refine ⟨_, rfl, p, _, 3, _, rfl, rfl, ht, atI_nat (j := 3) rfl, _, rfl, _, rfl, _, _, rfl, rfl, _, _, rfl, rfl, _, rfl, ifd (fun h' => ?_) (fun h' => j1 _ (Same.refl _) (if_neg (by simp [eqW, h'])))⟩
          exact ⟨_, rfl, j2 _ _ G (Same.refl _) (fun G'' s3 _ => dp_same s3 _ hdp) (if_pos (by simp [eqW, h, h']))⟩
        intro G4 vs4 s4 e4 h4
        rw [fm_if] at h4
        have hfW : Flat 2 (.list ((rs.filter fun e => eqW k e && decide (now + la < e.du)).map R5.d)) := flatW fun r hr => hR.inU r (List.mem_filter.mp hr).1
        have fN : Flat 2 (.list []) := flat_list (n := 1) fun d hd => by cases hd
        refine ⟨(by show 0 ≤ sizeLine; decide), fun t ht => ?_⟩
        have s5 := same_upd (o := .lst []) ht
        refine ⟨_, .list [], .lst (sql (s5 _ _ e4)) (dpa_same s5 _ h4), .lst (sql upd_same) .nil, hfW.sh (by decide), fN.sh (by decide), ?_⟩
        refine gnm7 rfl ?_
        have k4 := (k1.trans s4).trans s5
        refine ⟨_, rfl, a.p, dx, _, rfl, k4 _ _ ob, fl_Restarts_no_is_due, _, rfl, _, rfl, _, rfl, _, _, rfl, rfl, a, B, W, D, k, now + la, rfl, hA.same k4, _, rfl, rfl, _, rfl, ifnt (congrArg V.bl ?_) ?_⟩
        · have hff : rs.filter (fun e => eqW k e && decide (now + la < e.du)) = (rs.filter (eqW k)).filter fun e => decide (now + la < e.du) := by
            rw [List.filter_filter]
            exact List.filter_congr fun e _ => Bool.and_comm _ _
          rw [hff]
          rcases oneW (k := k) hR.nod with ⟨h1, h2⟩ | ⟨r, h1, h2, h3⟩
          · rw [h1, (hR.out k h2).2]
            show decide (now + la ≤ now + la) = true
            exact decide_eq_true (Int.le_refl _)
          · rw [h3]
            have ht := hR.get r h1
            unfold Tie at ht
            rw [h2] at ht
            by_cases hn : now + la < r.du
            · rw [List.filter_cons_of_pos (by simpa using hn)]
              show decide ((D k).getD (now + la) ≤ now + la) = false
              split at ht
              · omega
              · rw [ht.2.1]
                exact decide_eq_false (by show ¬ r.du ≤ now + la; omega)
            · rw [List.filter_cons_of_neg (by simpa using hn)]
              show decide ((D k).getD (now + la) ≤ now + la) = true
              refine decide_eq_true ?_
              split at ht
              · cases hD : D k with
                | none => exact Int.le_refl _
                | some d =>
                  have := ht.2.2.1 d hD
                  show d ≤ now + la
                  omega
              · rw [ht.2.1]
                show r.du ≤ now + la
                omega
        · exact ⟨_, _, rfl, k4, s5 _ _ (s4 _ _ k2), s5 _ _ (s4 _ _ k3)⟩
      · rintro σ G ⟨x4, x5, rfl, k1, k2, k3⟩
        exact ⟨_, _, _, rfl, k1, k2⟩
    · rintro σ G ⟨x3, x4, x5, rfl, g1, g2⟩
      exact c _ g1
theorem ok__law_waits_deed (T : TX K mg) : FnOk P w K mg base CX0 3 T.a__law_waits_deed T.d__law_waits_deed ["restarts", "rows", "digits", "now"] (sp_wdeed K T.a_Restarts) := by
  refine T.F__law_waits_deed.ok sc__law_waits_deed (fun vs H Q E h => ?_) (fun cdv A outer s H vs Q E hr h => ?_)
  · obtain ⟨a, l, dg, xs, B, W, D, rs, d0, d1, d2, d3, d4, now, rfl, _⟩ := h
    rfl
  · obtain ⟨a, l, dg, xs, B, W, D, rs, d0, d1, d2, d3, d4, now, rfl, hA, hl, hx, hR, hd, b1, c⟩ := h
    refine ⟨_, (pss_cons (ps_set (i := 4) sc__law_waits_deed.nd rfl (Or.inl rfl) (pe_lst (pa_cons pe_str (pa_cons pe_str (pa_cons pe_str (pa_cons pe_str pa_nil))))))
      (pss_cons (ps_set (i := 5) sc__law_waits_deed.nd rfl (Or.inr rfl) (pe_ix ix_list (pv 4) (pe_ix ix_list (pv 2) pe_int (fun _ _ => rfl)) (fun _ _ => rfl)))
      (pss_cons (ps_setLc (i := 6) (own := [("row", 9)]) (g := gName 9)  (by rfl) sc__law_waits_deed.nd rfl rfl (sw_true rfl rfl rfl (by decide +kernel)) (pi_list (pv 1)) (blkOk_by (own := [("row", 9)]) (N := ["restarts", "rows", "digits", "now", "names", "slot", "mine", "old", "others", "row"]) (sc := defScope s__law_waits_deed) (by decide +kernel)) (fun _ _ _ _ _ => pg_name (i := 9) sc__law_waits_deed.nd rfl (Or.inl rfl)) (fun _ _ _ _ _ => pts_one (pt_cmpR op_eq (pe_ix (ixK_tup (K := K) rfl) (pv 9) pe_int (fun _ _ => rfl)) (pv 5) (nomark _))) (fun _ _ _ _ _ => (pv 9)))
      (pss_cons (ps_set (i := 7) sc__law_waits_deed.nd rfl (Or.inl rfl) pe_non)
      (C8.pss_cut (ps_if (pt_cmpR (op_neD hr.units) (pv 6) (pe_lst pa_nil) (nomark _)) (pss_one (ps_set (i := 7) sc__law_waits_deed.nd rfl (Or.inl rfl) (pe_ix ix_list (pv 6) pe_int (fun _ _ => rfl)))) pss_nil)
      (pss_cons (ps_setLc (i := 8) (own := [("row", 9)]) (g := gName 9)  (by rfl) sc__law_waits_deed.nd rfl rfl (sw_true rfl rfl rfl (by decide +kernel)) (pi_list (pv 1)) (blkOk_by (own := [("row", 9)]) (N := ["restarts", "rows", "digits", "now", "names", "slot", "mine", "old", "others", "row"]) (sc := defScope s__law_waits_deed) (by decide +kernel)) (fun _ _ _ _ _ => pg_name (i := 9) sc__law_waits_deed.nd rfl (Or.inl rfl)) (fun _ _ _ _ _ => pts_one (pt_cmpR op_ne (pe_ix (ixK_tup (K := K) rfl) (pv 9) pe_int (fun _ _ => rfl)) (pv 5) (nomark _))) (fun _ _ _ _ _ => (pv 9)))
      (C8.pss_cut (ps_if (PW.pt (pw_and (pt_cmpR op_lt (pe_ix ix_list (pv 2) pe_int (fun _ _ => rfl)) pe_int (nomark _)) (pw_and1 (pt_cmpR op_isN (pv 7) pe_non (nomark _))))) (pss_cons (ps_expr (pe_meth (pv 0) T.K_Restarts T.m_Restarts_begun (ok_Restarts_begun T) (hr.mono (by decide)) T.b_Restarts_begun .nil pass0 (pa_cons (pv 5) (pa_cons (pv 3) pa_nil))))
        (pss_one (ps_ret (pe_op op_cat (pv 8) (pe_lst (pa_cons (pe_tup (pa_cons (pv 5) (pa_cons (pv 3) (pa_cons pe_int (pa_cons (pv 3) (pa_cons pe_bl pa_nil)))))) pa_nil)))))) pss_nil)
      (C8.pss_cut (ps_if (PW.pt (pw_and (pt_cmpR op_lt (pe_ix ix_list (pv 2) pe_int (fun _ _ => rfl)) pe_int (nomark _)) (pw_and (pt_cmpR op_notN (pv 7) pe_non (nomark _)) (pw_and (pt_not (pt_val (pe_ix ix_tup (pv 7) pe_int (fun _ _ => rfl)))) (pw_and1 (pt_cmpR op_le (pe_ix ix_tup (pv 7) pe_int (fun _ _ => rfl)) (pv 3) (nomark _))))))) (pss_cons (ps_expr (pe_meth (pv 0) T.K_Restarts T.m_Restarts_begun (ok_Restarts_begun T) (hr.mono (by decide)) T.b_Restarts_begun .nil pass0 (pa_cons (pv 5) (pa_cons (pv 3) pa_nil))))
        (pss_one (ps_ret (pe_op op_cat (pv 8) (pe_lst (pa_cons (pe_tup (pa_cons (pv 5) (pa_cons (pv 3) (pa_cons (pe_ix ix_tup (pv 7) pe_int (fun _ _ => rfl)) (pa_cons (pv 3) (pa_cons pe_bl pa_nil)))))) pa_nil)))))) pss_nil)
      (C8.pss_cut (ps_if (PW.pt (pw_and (pt_cmpR op_lt (pe_ix ix_list (pv 2) pe_int (fun _ _ => rfl)) pe_int (nomark _)) (pw_and1 (PW.pt (pw_or (pt_cmpR op_isN (pv 7) pe_non (nomark _)) (pw_or1 (pt_val (pe_ix ix_tup (pv 7) pe_int (fun _ _ => rfl))))))))) (pss_cons (ps_expr (pe_meth (pv 0) T.K_Restarts T.m_Restarts_failed (ok_Restarts_failed T) (hr.mono (by decide)) T.b_Restarts_failed .nil pass0 (pa_cons (pv 5) (pa_cons (pv 3) pa_nil))))
        (pss_one (ps_ret (pe_op op_cat (pv 8) (pe_lst (pa_cons (pe_call (ok__law_failed T) (hr.mono (by decide)) (by rfl) T.g__law_failed T.F__law_failed.kp T.b__law_failed .nil pass0 (pa_cons (pv 7) (pa_cons (pv 5) (pa_cons (pv 3) pa_nil)))) pa_nil)))))) pss_nil)
      (pss_cons (ps_if (pt_cmpR op_eq (pe_ix ix_list (pv 2) pe_int (fun _ _ => rfl)) pe_int (nomark _)) (pss_cons (ps_expr (pe_meth (pv 0) T.K_Restarts T.m_Restarts_forget (ok_Restarts_forget T) (hr.mono (by decide)) T.b_Restarts_forget .nil pass0 (pa_cons (pv 5) pa_nil)))
        (pss_one (ps_ret (pv 8)))) pss_nil)
      (pss_one (ps_ret (pv 1))))))))))))), ?_⟩
    have hrl := repw_len hR
    refine nrm10 rfl ?_
    refine ⟨(by show 4 ≤ sizeLine; decide), fun t1 ht1 => ?_⟩
    have s2 := same_upd (o := .lst (U4.map V.str)) ht1
    have e1 := upd_same (H := H) (a := t1) (o := .lst (U4.map V.str))
    refine (show gName 4 (V.ref t1) _ (upd H t1 (.lst (U4.map V.str))) _ from ?_)
    generalize upd H t1 (.lst (U4.map V.str)) = H2 at s2 e1
    have hA := hA.same s2
    have hl := s2 _ _ hl
    have hd := s2 _ _ hd
    have hx := dpa_same s2 _ hx
    clear ht1
    refine gnm10 rfl ?_
    obtain ⟨k, hk, hkat⟩ := at_strs (zs := U4) (i := d1) b1.1 (by show d1 < 4; omega)
    refine ⟨_, rfl, _, rfl, dg, _, 1, _, rfl, rfl, sql hd, atI_nat (j := 1) rfl, t1, _, d1, .str k, rfl, rfl, sql e1, hkat, ?_⟩
    refine gnm10 rfl ?_
    -- mine
    refine ⟨_, rfl, l, rfl, ⟨_, sql hl⟩, fun D1 hD1 => ?_⟩
    refine lcd (K := K) rs R5.d (fun e => if eqW k e = true then some e.d else none) hD1 (sql hl) hx (by omega) ?_ ?_
    · intro v e G he s4 _ hdp J j1 j2
      obtain ⟨p, v0, v1, v2, v3, v4, rfl, ht, ⟨⟩, ⟨⟩, ⟨⟩, ⟨⟩, ⟨⟩⟩ := dp_t5 hdp
      have ht := sqt_same s4 ht
      refine ⟨rfl, _, rfl, p, _, 0, _, rfl, rfl, ht, atI_nat (j := 0) rfl, _, rfl, rfl, _, rfl, ifd (fun h => ?_) (fun h => j1 _ (Same.refl _) (if_neg (by simp [eqW, h])))⟩
      exact ⟨_, rfl, j2 _ _ G (Same.refl _) (fun G'' s3 _ => dp_same s3 _ hdp) (if_pos (by simp [eqW, h]))⟩
    intro H3 ws s3 e3 h3
    rw [fm_if] at h3
    refine gnm10 rfl ?_
    refine asgC ?_
    refine gnm10 rfl ?_
    have hfW : Flat 2 (.list ((rs.filter (eqW k)).map R5.d)) := flatW fun r hr => hR.inU r (List.mem_filter.mp hr).1
    have fN : Flat 2 (.list []) := flat_list (n := 1) fun d hd => by cases hd
    -- old
    refine ⟨fun σ' G => ∃ o : V, σ' = [some (.ref a.p), some (.ref l), some (.ref dg), some (.int now), some (.ref t1), some (.str k), some (.ref D1), some o, none, none] ∧ Same H3 G ∧ ((o = .non ∧ k ∉ rs.map (·.nm)) ∨ ∃ r ∈ rs, r.nm = k ∧ Dp K G o r.d ∧ ∃ x, o = .ref x), ?_, ?_⟩
    · refine ⟨_, rfl, (by show 0 ≤ sizeLine; decide), fun t ht => ?_⟩
      have s5 := same_upd (o := .lst []) ht
      refine ⟨_, .list [], .lst (sql (s5 _ _ e3)) (dpa_same s5 _ h3), .lst (sql upd_same) .nil, hfW.sh (by decide), fN.sh (by decide), _, rfl, ?_⟩
      rcases oneW (k := k) hR.nod with ⟨g1, g2⟩ | ⟨r, g1, g2, g3⟩
      · rw [g1]
        exact ifbf rfl ⟨_, rfl, s5, .inl ⟨rfl, g2⟩⟩
      · rw [g3] at h3 ⊢
        obtain ⟨v, ws', rfl, hv, _⟩ := dpa_cons h3
        obtain ⟨p, v0, v1, v2, v3, v4, rfl, ht, _⟩ := dp_t5 hv
        refine ifbt rfl ⟨_, rfl, D1, _, 0, _, rfl, rfl, sql (s5 _ _ e3), atI_nat (j := 0) rfl, ?_⟩
        exact ⟨_, rfl, s5, .inr ⟨r, g1, g2, dp_same s5 _ hv, _, rfl⟩⟩
    rintro σ' G ⟨o, rfl, s5, ho⟩
    have s6 := s3.trans s5
    have hA := hA.same s6
    have hl := s6 _ _ hl
    have hd := s6 _ _ hd
    have hx := dpa_same s6 _ hx
    have hfr : Fr a.all H G := Fr.of_same (s2.trans s6)
    clear s2 s3 s5 s6 hD1 hfW h3 e3 e1 H3
    -- others
    refine ⟨_, rfl, l, rfl, ⟨_, sql hl⟩, fun D2 hD2 => ?_⟩
    refine lcd (K := K) rs R5.d (fun e => if neW k e = true then some e.d else none) hD2 (sql hl) hx (by omega) ?_ ?_
    · intro v e G he s4 _ hdp J j1 j2
      obtain ⟨p, v0, v1, v2, v3, v4, rfl, ht, ⟨⟩, ⟨⟩, ⟨⟩, ⟨⟩, ⟨⟩⟩ := dp_t5 hdp
      have ht := sqt_same s4 ht
      refine ⟨rfl, _, rfl, p, _, 0, _, rfl, rfl, ht, atI_nat (j := 0) rfl, _, rfl, rfl, _, rfl, ifn (fun h => ?_) (fun h => ?_)⟩
      · exact ⟨_, rfl, j2 _ _ G (Same.refl _) (fun G'' s7 _ => dp_same s7 _ hdp) (if_pos (neW_iff.mpr fun z => h (by rw [z])))⟩
      · exact j1 _ (Same.refl _) (if_neg fun z => neW_iff.mp z (V.str.inj h))
    intro H4 os s4 e4 h4
    rw [fm_if] at h4
    have hA := hA.same s4
    have hl := s4 _ _ hl
    have hd := s4 _ _ hd
    have hx := dpa_same s4 _ hx
    have hfr := hfr.trans (Fr.of_same s4)
    have ho : (o = .non ∧ k ∉ rs.map (·.nm)) ∨ ∃ r ∈ rs, r.nm = k ∧ Dp K H4 o r.d ∧ ∃ x, o = .ref x := by
      rcases ho with h | ⟨r, g1, g2, g3, g4⟩
      · exact .inl h
      · exact .inr ⟨r, g1, g2, dp_same s4 _ g3, g4⟩
    clear s4 hD2
    refine gnm10 rfl ?_
    have hol := dpa_len h4
    rw [List.length_map] at hol
    have hfl : (rs.filter (neW k)).length ≤ rs.length := List.length_filter_le _ _
    obtain ⟨dx, ob⟩ := hA.ob
    have nq := hA.noseq
    have nn : ∀ {b : Addr} {xs : List V}, H4 b = some (.lst xs) → b ∉ a.all := fun {b xs} h z => (nq b z _ (.inl h)).1 xs rfl
    -- the last two
    have hout : k ∉ rs.map (·.nm) → W k = none ∧ D k = none := hR.out k
    have hW1 : ∀ x, W k = some x → 1 ≤ x := fun x hw => by
      by_cases hm : k ∈ rs.map (·.nm)
      · obtain ⟨r, hr, rfl⟩ := List.mem_map.mp hm
        have ht := hR.get r hr
        unfold Tie at ht
        split at ht
        · rw [ht.2.1] at hw
          split at hw
          · cases hw
          · have := ht.2.2.2.2.1
            cases hw
            omega
        · rw [ht.1] at hw
          cases hw
          exact ht.2.2
      · rw [(hout hm).1] at hw
        cases hw
    have cbeg : ∀ (wt : Int) (r0 : R5), r0 = ⟨k, now, wt, now, true⟩ → (∀ d, D k = some d → d ≤ now) → W k = (if wt = 0 then none else some wt) → 0 ≤ wt → ∀ H5 l5 ys5, QAt T.a_Restarts H5 a (setF B k now) W D → H5 l5 = some (.lst ys5) → DpAll K H5 ys5 ((rs.filter (neW k) ++ [r0]).map R5.d) → Fr a.all H H5 → Q (.ref l5) H5 := fun wt r0 er hdd hww hw0 H5 l5 ys5 q1 q2 q3 q4 => by
      subst er
      refine c l5 ys5 _ _ _ _ H5 q1 (repw_put hR hk _ rfl ?_ (fun s hs => setF_ne hs) (fun _ _ => rfl) (fun _ _ => rfl)) q2 q3 q4
      unfold Tie
      rw [if_pos rfl]
      exact ⟨setF_same _ _ _, hww, hdd, Int.le_refl _, hw0, Int.le_refl _⟩
    have cfail : ∀ (n : Int), n = nextW B W k now → ∀ H5 l5 ys5, QAt T.a_Restarts H5 a B (setF W k n) (setF D k (now + n)) → H5 l5 = some (.lst ys5) → DpAll K H5 ys5 ((rs.filter (neW k) ++ [failR k now n]).map R5.d) → Fr a.all H H5 → Q (.ref l5) H5 := fun n hn H5 l5 ys5 q1 q2 q3 q4 => by
      refine c l5 ys5 _ _ _ _ H5 q1 (repw_put hR hk _ rfl ?_ (fun _ _ => rfl) (fun s hs => setF_ne hs) (fun s hs => setF_ne hs)) q2 q3 q4
      unfold Tie
      rw [if_neg (by show ¬ (false = true); simp)]
      exact ⟨setF_same _ _ _, setF_same _ _ _, by rw [hn]; exact nextW_pos hW1⟩
    have lastIf : ∀ (o : V), tSeq (tIfS (tTest (tOp rEq (tOp (rIxL K) (tVar 2) (tC (.int 0))) (tC (.int 7)))) (tSeq (tDrop (tMeth T.a_Restarts "forget" (sp_qforget T.a_Restarts) [] E0 (tVar 0) (tCons (tVar 5) tNil))) (tRet (tVar 8))) tNext) (tRet (tVar 1)) { nx := fun _ H' => Q .non H', rt := Q } [some (.ref a.p), some (.ref l), some (.ref dg), some (.int now), some (.ref t1), some (.str k), some (.ref D1), some o, some (.ref D2), none] H4 := fun o => by
      refine ⟨_, rfl, dg, _, 0, _, rfl, rfl, sql hd, atI_nat (j := 0) rfl, rfl, _, rfl, ifd (fun h => ?_) (fun h => ?_)⟩
      · refine ⟨_, rfl, a.p, dx, _, rfl, ob, fl_Restarts_no_forget, _, rfl, a, B, W, D, k, rfl, hA, fun vv H5 hA5 f5 => ?_⟩
        exact ⟨_, rfl, c D2 os _ _ _ _ H5 hA5 (repw_drop hR k) (f5 _ _ e4 (nn e4)) (dpa_fr nq f5 _ h4) (hfr.trans f5)⟩
      · exact ⟨_, rfl, c l xs _ _ _ _ H4 hA hR hl hx hfr⟩
    rcases ho with ⟨rfl, hkn⟩ | ⟨r, hrm, rfl, hro, xo, rfl⟩
    · obtain ⟨hw0, hd0⟩ := hout hkn
      refine cut_same ?_ ?_
      · refine ⟨_, rfl, dg, _, 0, _, rfl, rfl, sql hd, atI_nat (j := 0) rfl, _, _, rfl, rfl, _, rfl, ifd (fun h => ?_) (fun h => ifbf rfl ⟨rfl, rfl⟩)⟩
        refine ⟨_, rfl, rfl, _, rfl, ift rfl ?_⟩
        refine ⟨_, rfl, a.p, dx, _, rfl, ob, fl_Restarts_no_begun, _, rfl, _, rfl, a, B, W, D, k, now, rfl, hA, hk, fun H5 hA5 f5 => ?_⟩
        refine ⟨_, rfl, _, rfl, _, rfl, _, rfl, (by show 5 ≤ sizeLine; decide), fun u hu => ⟨(by show 1 ≤ sizeLine; decide), fun t ht => ?_⟩⟩
        have s5 := same_upd (o := .tup [.str k, .int now, .int 0, .int now, .bl true]) hu
        have s6 := same_upd (o := .lst [.ref u]) ht
        have s56 := s5.trans s6
        have du : Dp K (upd (upd H5 u (.tup [.str k, .int now, .int 0, .int now, .bl true])) t (.lst [.ref u])) (.ref u) (R5.d ⟨k, now, 0, now, true⟩) := .tup (sqt_same s6 (sqt upd_same)) (.cons (.str _) (.cons (.int _) (.cons (.int _) (.cons (.int _) (.cons (.bl _) .nil)))))
        refine ⟨D2, t, os, [.ref u], rfl, rfl, s56 _ _ (f5 _ _ e4 (nn e4)), upd_same, sz (by simp only [List.length_cons, List.length_nil]; omega), fun p9 hp9 => ?_⟩
        have s7 := same_upd (o := .lst (os ++ [.ref u])) hp9
        refine cbeg 0 _ rfl (fun d hd => by rw [hd0] at hd; cases hd) (by rw [hw0]; rfl) (Int.le_refl _) _ p9 (os ++ [.ref u]) ((hA5.same s56).same s7) upd_same ?_ ((hfr.trans f5).trans (Fr.of_same (s56.trans s7)))
        rw [List.map_append]
        exact dpa_app (dpa_same (s56.trans s7) _ (dpa_fr nq f5 _ h4)) (.cons (dp_same s7 _ du) .nil)
      refine cut_same ?_ ?_
      · refine ⟨_, rfl, dg, _, 0, _, rfl, rfl, sql hd, atI_nat (j := 0) rfl, _, _, rfl, rfl, _, rfl, ifd (fun h => ?_) (fun h => ifbf rfl ⟨rfl, rfl⟩)⟩
        exact ⟨_, rfl, rfl, _, rfl, ifbf rfl (ifbf rfl ⟨rfl, rfl⟩)⟩
      refine cut_same ?_ ?_
      · refine ⟨_, rfl, dg, _, 0, _, rfl, rfl, sql hd, atI_nat (j := 0) rfl, _, _, rfl, rfl, _, rfl, ifd (fun h => ?_) (fun h => ifbf rfl ⟨rfl, rfl⟩)⟩
        refine ⟨_, rfl, rfl, _, rfl, ift rfl ?_⟩
        refine ifbt rfl ?_
        refine ⟨_, rfl, a.p, dx, _, rfl, ob, fl_Restarts_no_failed, _, rfl, _, rfl, a, B, W, D, k, now, rfl, hA, hk, fun H5 hA5 f5 => ?_⟩
        have hn1 : nextW B W k now = 1 := by unfold nextW; rw [hw0]
        refine ⟨_, rfl, _, rfl, _, rfl, _, rfl, .non, k, now, 1, rfl, .inl ⟨rfl, rfl⟩, fun u H6 hu s5 du => ⟨(by show 1 ≤ sizeLine; decide), fun t ht => ?_⟩⟩
        have s6 := same_upd (o := .lst [.ref u]) ht
        have s56 := s5.trans s6
        refine ⟨D2, t, os, [.ref u], rfl, rfl, s56 _ _ (f5 _ _ e4 (nn e4)), upd_same, sz (by simp only [List.length_cons, List.length_nil]; omega), fun p9 hp9 => ?_⟩
        have s7 := same_upd (o := .lst (os ++ [.ref u])) hp9
        rw [hn1] at hA5
        refine cfail 1 hn1.symm _ p9 (os ++ [.ref u]) ((hA5.same s56).same s7) upd_same ?_ ((hfr.trans f5).trans (Fr.of_same (s56.trans s7)))
        rw [List.map_append]
        exact dpa_app (dpa_same (s56.trans s7) _ (dpa_fr nq f5 _ h4)) (.cons (dp_same (s6.trans s7) _ du) .nil)
      exact lastIf _
    · have hti := hR.get r hrm
      obtain ⟨po, v0, v1, v2, v3, v4, epo, hpo, ⟨⟩, ⟨⟩, ⟨⟩, ⟨⟩, ⟨⟩⟩ := dp_t5 hro
      cases epo
      have nonN : ¬ (V.ref xo = V.non) := by intro z; cases z
      refine cut_same ?_ ?_
      · refine ⟨_, rfl, dg, _, 0, _, rfl, rfl, sql hd, atI_nat (j := 0) rfl, _, _, rfl, rfl, _, rfl, ifd (fun h => ?_) (fun h => ifbf rfl ⟨rfl, rfl⟩)⟩
        exact ⟨_, rfl, rfl, _, rfl, iff0 nonN ⟨rfl, rfl⟩⟩
      refine cut_same ?_ ?_
      · refine ⟨_, rfl, dg, _, 0, _, rfl, rfl, sql hd, atI_nat (j := 0) rfl, _, _, rfl, rfl, _, rfl, ifd (fun h => ?_) (fun h => ifbf rfl ⟨rfl, rfl⟩)⟩
        refine ⟨_, rfl, rfl, _, rfl, ?_⟩
        refine ifn (fun _ => ?_) (fun z => absurd z nonN)
        refine ⟨_, rfl, xo, _, 4, _, rfl, rfl, hpo, atI_nat (j := 4) rfl, _, rfl, ?_⟩
        cases hrn : r.rn with
        | true => exact ifbf rfl (ifbf rfl ⟨rfl, rfl⟩)
        | false =>
          refine ifbt rfl ⟨_, rfl, xo, _, 3, _, rfl, rfl, hpo, atI_nat (j := 3) rfl, _, rfl, _, _, rfl, rfl, _, rfl, ifd (fun hdu => ?_) (fun hdu => ⟨rfl, rfl⟩)⟩
          unfold Tie at hti
          rw [if_neg (by rw [hrn]; simp)] at hti
          refine ⟨_, rfl, a.p, dx, _, rfl, ob, fl_Restarts_no_begun, _, rfl, _, rfl, a, B, W, D, r.nm, now, rfl, hA, hk, fun H5 hA5 f5 => ?_⟩
          have hpo5 := sqt_fr nq f5 hpo
          refine ⟨_, rfl, _, rfl, _, rfl, _, rfl, xo, _, 2, _, rfl, rfl, hpo5, atI_nat (j := 2) rfl, _, rfl, (by show 5 ≤ sizeLine; decide), fun u hu => ⟨(by show 1 ≤ sizeLine; decide), fun t ht => ?_⟩⟩
          have s5 := same_upd (o := .tup [.str r.nm, .int now, .int r.wt, .int now, .bl true]) hu
          have s6 := same_upd (o := .lst [.ref u]) ht
          have s56 := s5.trans s6
          have du : Dp K (upd (upd H5 u (.tup [.str r.nm, .int now, .int r.wt, .int now, .bl true])) t (.lst [.ref u])) (.ref u) (R5.d ⟨r.nm, now, r.wt, now, true⟩) := .tup (sqt_same s6 (sqt upd_same)) (.cons (.str _) (.cons (.int _) (.cons (.int _) (.cons (.int _) (.cons (.bl _) .nil)))))
          refine ⟨D2, t, os, [.ref u], rfl, rfl, s56 _ _ (f5 _ _ e4 (nn e4)), upd_same, sz (by simp only [List.length_cons, List.length_nil]; omega), fun p9 hp9 => ?_⟩
          have s7 := same_upd (o := .lst (os ++ [.ref u])) hp9
          refine cbeg r.wt _ rfl (fun d hd => by rw [hti.2.1] at hd; cases hd; exact hdu) (by rw [hti.1, if_neg (by omega)]) (by omega) _ p9 (os ++ [.ref u]) ((hA5.same s56).same s7) upd_same ?_ ((hfr.trans f5).trans (Fr.of_same (s56.trans s7)))
          rw [List.map_append]
          exact dpa_app (dpa_same (s56.trans s7) _ (dpa_fr nq f5 _ h4)) (.cons (dp_same s7 _ du) .nil)
      refine cut_same ?_ ?_
      · refine ⟨_, rfl, dg, _, 0, _, rfl, rfl, sql hd, atI_nat (j := 0) rfl, _, _, rfl, rfl, _, rfl, ifd (fun h => ?_) (fun h => ifbf rfl ⟨rfl, rfl⟩)⟩
        refine ⟨_, rfl, rfl, _, rfl, iff0 nonN ?_⟩
        refine ⟨_, rfl, xo, _, 4, _, rfl, rfl, hpo, atI_nat (j := 4) rfl, _, rfl, ?_⟩
        cases hrn : r.rn with
        | false => exact ifbf rfl ⟨rfl, rfl⟩
        | true =>
          refine ifbt rfl ?_
          have hnn := lawN_next hti hrn
          refine ⟨_, rfl, a.p, dx, _, rfl, ob, fl_Restarts_no_failed, _, rfl, _, rfl, a, B, W, D, r.nm, now, rfl, hA, hk, fun H5 hA5 f5 => ?_⟩
          refine ⟨_, rfl, _, rfl, _, rfl, _, rfl, .ref xo, r.nm, now, _, rfl, .inr ⟨r, dp_fr nq f5 _ hro, ⟨_, rfl⟩, rfl⟩, fun u H6 hu s5 du => ⟨(by show 1 ≤ sizeLine; decide), fun t ht => ?_⟩⟩
          have s6 := same_upd (o := .lst [.ref u]) ht
          have s56 := s5.trans s6
          refine ⟨D2, t, os, [.ref u], rfl, rfl, s56 _ _ (f5 _ _ e4 (nn e4)), upd_same, sz (by simp only [List.length_cons, List.length_nil]; omega), fun p9 hp9 => ?_⟩
          have s7 := same_upd (o := .lst (os ++ [.ref u])) hp9
          rw [hnn] at hA5
          refine cfail (lawN r now) hnn.symm _ p9 (os ++ [.ref u]) ((hA5.same s56).same s7) upd_same ?_ ((hfr.trans f5).trans (Fr.of_same (s56.trans s7)))
          rw [List.map_append]
          exact dpa_app (dpa_same (s56.trans s7) _ (dpa_fr nq f5 _ h4)) (.cons (dp_same (s6.trans s7) _ du) .nil)
      exact lastIf _
end
theorem same_new {H H' : Hp} {p dx : Addr} {o u : HO} (hp : H p = none) (hd : H dx = none) (f : Fr [p] (upd (upd H dx o) p u) H') : Same H H' := fun x v hx => by
  have n1 : x ≠ p := ne_of_none hx hp
  refine f x v ?_ (by simp [n1])
  rw [upd_ne n1, upd_ne (ne_of_none hx hd)]
  exact hx
theorem new_free {H : Hp} {p dx x : Addr} {o u : HO} (hp : H p = none) (hd : H dx = none) (h : (upd (upd H dx o) p u) x = none) : H x = none := by
  by_cases e : x = p
  · rw [e]; exact hp
  · rw [upd_ne e] at h
    by_cases e2 : x = dx
    · rw [e2]; exact hd
    · rw [upd_ne e2] at h; exact h
section
variable {P : Program} {w : World} {K : PySem.W.Frag} {mg : Str → Option Value} {base : Heap}
theorem ok_law (T : TX K mg) : FnOk P w K mg base CX0 4 T.a_law T.d_law ["script"] (sp_law K) := by
  refine T.F_law.ok sc_law (fun vs H Q E h => ?_) (fun cdv A outer s H vs Q E hr h => ?_)
  · obtain ⟨a, ns, rfl, _⟩ := h
    rfl
  · obtain ⟨A0, ns, rfl, hS, hns, q⟩ := h
    refine ⟨_, (pss_cons (ps_set (i := 1) sc_law.nd rfl (Or.inl rfl) (pe_make0 T.M_Runs (ok_Runs___init__ T) (hr.mono (by decide)) (by rfl) T.g_Runs T.b_Runs___init__ .nil pass0))
      (pss_cons (ps_set (i := 2) sc_law.nd rfl (Or.inl rfl) (pe_make0 T.M_Restarts (ok_Restarts___init__ T) (hr.mono (by decide)) (by rfl) T.g_Restarts T.b_Restarts___init__ .nil pass0))
      (pss_cons (ps_set (i := 3) sc_law.nd rfl (Or.inl rfl) (pe_lst pa_nil))
      (pss_cons (ps_set (i := 4) sc_law.nd rfl (Or.inl rfl) (pe_lst pa_nil))
      (pss_cons (ps_set (i := 5) sc_law.nd rfl (Or.inl rfl) pe_int)
      (pss_cons (ps_for PassesOwn.never rfl (pi_range1 (by rfl) T.n_range (pa_cons (pe_callB (call_min2 rfl) (by rfl) T.n_min (by decide +kernel) (pa_cons pe_int (pa_cons (pe_callB call_len_seq (by rfl) T.n_len PySem.boot_len (pa_cons (pv 0) pa_nil)) pa_nil))) pa_nil)) (pg_name (i := 6) sc_law.nd rfl (Or.inl rfl))
        (pss_cons (ps_set (i := 7) sc_law.nd rfl (Or.inl rfl) (pe_call (ok__law_digits T) (hr.mono (by decide)) (by rfl) T.g__law_digits T.F__law_digits.kp T.b__law_digits .nil pass0 (pa_cons (pv 0) (pa_cons (pv 6) (pa_cons (pe_lst (pa_cons pe_int (pa_cons pe_int (pa_cons pe_int (pa_cons pe_int (pa_cons pe_int pa_nil)))))) pa_nil)))))
        (C8.pss_cut (ps_if (pt_cmpR op_eq (pe_ix ix_list (pv 7) pe_int (fun _ _ => rfl)) pe_int (nomark _)) (pss_one (ps_aug (i := 5) sc_law.nd rfl (Or.inl rfl) (pe_ix ix_list (pv 7) pe_int (fun _ _ => rfl)) ip_add)) (pss_one (ps_if (pt_cmpR op_eq (pe_ix ix_list (pv 7) pe_int (fun _ _ => rfl)) pe_int (nomark _)) (pss_one (ps_aug (i := 5) sc_law.nd rfl (Or.inl rfl) pe_int ip_add)) pss_nil)))
        (pss_cons (ps_set (i := 3) sc_law.nd rfl (Or.inl rfl) (pe_call (ok__law_runs_deed T) (hr.mono (by decide)) (by rfl) T.g__law_runs_deed T.F__law_runs_deed.kp T.b__law_runs_deed .nil pass0 (pa_cons (pv 1) (pa_cons (pv 3) (pa_cons (pv 7) pa_nil)))))
        (pss_cons (ps_set (i := 4) sc_law.nd rfl (Or.inl rfl) (pe_call (ok__law_waits_deed T) (hr.mono (by decide)) (by rfl) T.g__law_waits_deed T.F__law_waits_deed.kp T.b__law_waits_deed .nil pass0 (pa_cons (pv 2) (pa_cons (pv 4) (pa_cons (pv 7) (pa_cons (pv 5) pa_nil))))))
        (pss_one (ps_if (PW.pt (pw_or (pt_not (pt_val (pe_call (ok__law_runs_agree T) (hr.mono (by decide)) (by rfl) T.g__law_runs_agree T.F__law_runs_agree.kp T.b__law_runs_agree .nil pass0 (pa_cons (pv 1) (pa_cons (pv 3) pa_nil))))) (pw_or1 (pt_not (pt_val (pe_call (ok__law_waits_agree T) (hr.mono (by decide)) (by rfl) T.g__law_waits_agree T.F__law_waits_agree.kp T.b__law_waits_agree .nil pass0 (pa_cons (pv 2) (pa_cons (pv 4) (pa_cons (pv 5) pa_nil))))))))) (pss_one (ps_ret pe_bl)) pss_nil)))))))
      (pss_one (ps_ret (pe_and (pe_call (ok__law_runs_agree T) (hr.mono (by decide)) (by rfl) T.g__law_runs_agree T.F__law_runs_agree.kp T.b__law_runs_agree .nil pass0 (pa_cons (pv 1) (pa_cons (pv 3) pa_nil))) (pe_and (pe_cmpR (op_eqD hr.units) (pe_meth0 (pe_make0 T.M_Runs (ok_Runs___init__ T) (hr.mono (by decide)) (by rfl) T.g_Runs T.b_Runs___init__ .nil pass0) T.K_Runs T.m_Runs_slots (ok_Runs_slots T) (hr.mono (by decide)) T.b_Runs_slots .nil pass0) (pe_lst pa_nil) (nomark _)) (pe_one (pe_meth (pe_make0 T.M_Restarts (ok_Restarts___init__ T) (hr.mono (by decide)) (by rfl) T.g_Restarts T.b_Restarts___init__ .nil pass0) T.K_Restarts T.m_Restarts_is_due (ok_Restarts_is_due T) (hr.mono (by decide)) T.b_Restarts_is_due .nil pass0 (pa_cons pe_str (pa_cons pe_int pa_nil)))))))))))))), ?_⟩
    refine nrm8 rfl ?_
    refine fun p dx hp hdx npdx => ⟨p, dx, rfl, upd_same, fun ab H1 n1 hA f1 => ⟨rfl, ?_⟩⟩
    have s1 := same_new hp hdx f1
    refine gnm8 rfl ?_
    refine fun p2 dx2 hp2 hdx2 npdx2 => ⟨p2, dx2, rfl, upd_same, fun b H2 eb m1 m2 m3 hB f2 => ⟨rfl, ?_⟩⟩
    have s2 := same_new hp2 hdx2 f2
    subst eb
    refine gnm8 rfl ?_
    have hA2 := hA.same s2
    have hdis : p ∉ b.all ∧ ab ∉ b.all := by
      obtain ⟨⟨d, ob⟩, ⟨k1, e1, _⟩⟩ := hA
      have fr : ∀ x, x ∈ b.all → H1 x = none := fun x hx => by
        simp only [QP.all, List.mem_cons, List.not_mem_nil, or_false] at hx
        rcases hx with rfl | rfl | rfl | rfl
        · exact hp2
        · exact new_free hp2 hdx2 m1
        · exact new_free hp2 hdx2 m2
        · exact new_free hp2 hdx2 m3
      exact ⟨fun z => (by have := fr _ z; rw [ob] at this; cases this), fun z => (by have := fr _ z; rw [e1] at this; cases this)⟩
    have s3 := s1.trans s2
    clear hA f1 f2 n1 m1 m2 m3 hp hdx hp2 hdx2 npdx npdx2 s1 s2
    refine ⟨Nat.zero_le _, fun l0 hl0 => ?_⟩
    have s4 := same_upd (o := .lst []) hl0
    have el := upd_same (H := H2) (a := l0) (o := .lst [])
    have hA3 := hA2.same s4
    have hB3 := hB.same s4
    have hS3 := (s3.trans s4).seq hS
    generalize upd H2 l0 (.lst []) = H3 at s4 el hA3 hB3 hS3
    clear s3 s4 hl0 hA2 hB
    refine gnm8 rfl ?_
    refine ⟨Nat.zero_le _, fun l1 hl1 => ?_⟩
    have s4 := same_upd (o := .lst []) hl1
    have el1 := upd_same (H := H3) (a := l1) (o := .lst [])
    have hA4 := hA3.same s4
    have hB4 := hB3.same s4
    have hS4 := s4.seq hS3
    have el := s4 _ _ el
    generalize upd H3 l1 (.lst []) = H4 at s4 el el1 hA4 hB4 hS4
    clear s4 hl1 hA3 hB3 hS3
    refine gnm8 rfl ?_
    refine asgC ?_
    refine gnm8 rfl ?_
    have hml : (ns.map V.int).length = ns.length := List.length_map _
    obtain ⟨m, hm, hm63⟩ : ∃ m : Nat, (if ((ns.map V.int).length : Int) < (60 : Int) then ((ns.map V.int).length : Int) else (60 : Int)) = (m : Int) ∧ m ≤ 63 := by
      rw [hml]
      refine ⟨min ns.length 60, ?_, by omega⟩
      split <;> omega
    have w0 : RepW [] (fun _ => none) (fun _ => none) (fun _ => none) 0 := ⟨List.nodup_nil, (fun _ h => by cases h), (fun _ h => by cases h), (fun _ _ => ⟨rfl, rfl⟩)⟩
    refine ⟨_, rfl, A0, _, rfl, .inl hS4, _, _, rfl, ?_⟩
    refine ⟨(m : Int), by rw [← hm], by omega, by omega, for_range (lo := 0) (n := _) (fun i σ G => ∃ l lw ys yw ab f rs B W D rw now x6 x7, σ = [some (.ref A0), some (.ref p), some (.ref b.p), some (.ref l), some (.ref lw), some (.int now), x6, x7] ∧ RAt T.a_Runs G p ab f ∧ QAt T.a_Restarts G b B W D ∧ RepR rs f ∧ RepW rw B W D now ∧ G l = some (.lst ys) ∧ DpAll K G ys (rs.map R2.d) ∧ G lw = some (.lst yw) ∧ DpAll K G yw (rw.map R5.d) ∧ SqL K G A0 (ns.map V.int) ∧ p ∉ b.all ∧ ab ∉ b.all)
      ⟨l0, l1, [], [], ab, _, [], _, _, _, [], 0, none, none, rfl, hA4, hB4, repr_nil, w0, el, .nil, el1, .nil, hS4, hdis.1, hdis.2⟩ ?_ ?_⟩
    · rintro i σ G hi ⟨l, lw, ys, yw, ab, f, rs, B, W, D, rw_, now, x6, x7, rfl, hA, hB, hR, hW, el, hx, ew, hxw, hS, dj1, dj2⟩
      refine gnm8 rfl ?_
      refine ⟨_, rfl, _, rfl, (by show 5 ≤ sizeLine; decide), fun z hz => ?_⟩
      have s1 := same_upd (o := .lst [.int 9, .int 4, .int 50, .int 4, .int 41]) hz
      refine ⟨A0, z, ns, [9, 4, 50, 4, 41], _, rfl, s1.seq hS, ⟨by omega, by omega⟩, sql upd_same, by decide, (by simp), fun dg H3 ds hdg s2 e2 hd => ?_⟩
      obtain ⟨d0, d1, d2, d3, d4, rfl, b0, b1, b2, b3, b4⟩ := digs5 hd
      have s3 := s1.trans s2
      refine gnm8 rfl ?_
      -- now
      refine ⟨fun σ' G' => H3 = G' ∧ ∃ n2 : Int, now ≤ n2 ∧ σ' = [some (.ref A0), some (.ref p), some (.ref b.p), some (.ref l), some (.ref lw), some (.int n2), some (.int (0 + (i : Int))), some (.ref dg)], ?_, ?_⟩
      · refine ⟨_, rfl, dg, _, 3, _, rfl, rfl, sql e2, atI_nat (j := 3) rfl, rfl, _, rfl, ifd (fun h => ?_) (fun h => ?_)⟩
        · exact ⟨_, rfl, _, rfl, dg, _, 4, _, rfl, rfl, sql e2, atI_nat (j := 4) rfl, _, _, rfl, rfl, rfl, now + d4, by omega, rfl⟩
        · refine ⟨_, rfl, dg, _, 3, _, rfl, rfl, sql e2, atI_nat (j := 3) rfl, rfl, _, rfl, ifd (fun h => ?_) (fun h => ?_)⟩
          · exact ⟨_, rfl, _, _, rfl, rfl, rfl, now + 1, by omega, rfl⟩
          · exact ⟨rfl, now, Int.le_refl _, rfl⟩
      rintro σ' _ ⟨rfl, n2, hn2, rfl⟩
      have hA1 := hA.same s3
      have hB1 := hB.same s3
      have hW1 := repw_later hW hn2
      -- runs
      refine ⟨_, rfl, _, rfl, _, rfl, p, ab, l, dg, ys, f, rs, d0, d1, d2, d3, d4, rfl, hA1, s3 _ _ el, dpa_same s3 _ hx, hR, e2, b1, fun ab2 l2 ys2 f2 rs2 H4 hA2 hR2 el2 hx2 fr2 hab => ?_⟩
      have nq1 := hA1.noseq
      have no2 : ∀ x ∈ b.all, x ∉ [p, ab] := fun x hx z => by
        simp only [List.mem_cons, List.not_mem_nil, or_false] at z
        rcases z with rfl | rfl
        · exact dj1 hx
        · exact dj2 hx
      have hB2 := hB1.frame fr2 no2
      have ew2 := fr2 _ _ (s3 _ _ ew) (fun z => (nq1 lw z _ (.inl (s3 _ _ ew))).1 _ rfl)
      have hxw2 := dpa_fr nq1 fr2 _ (dpa_same s3 _ hxw)
      have hS2 := sql_fr nq1 fr2 (s3.seq hS)
      have e22 := fr2 _ _ e2 (fun z => (nq1 dg z _ (.inl e2)).1 _ rfl)
      have dj3 : ab2 ∉ b.all := by
        rcases hab with rfl | hab
        · exact dj2
        · intro z
          obtain ⟨⟨d, ob⟩, ⟨k1, e1, _⟩, ⟨k2, e2', _⟩, ⟨k3, e3, _⟩, _⟩ := hB1
          simp only [QP.all, List.mem_cons, List.not_mem_nil, or_false] at z
          rcases z with rfl | rfl | rfl | rfl
          · rw [ob] at hab; cases hab
          · rw [e1] at hab; cases hab
          · rw [e2'] at hab; cases hab
          · rw [e3] at hab; cases hab
      refine gnm8 rfl ?_
      -- restarts
      refine ⟨_, rfl, _, rfl, _, rfl, _, rfl, b, lw, dg, yw, B, W, D, rw_, d0, d1, d2, d3, d4, n2, rfl, hB2, ew2, hxw2, hW1, e22, b1, fun l3 ys3 B3 W3 D3 rw3 H5 hB3 hW3 el3 hx3 fr3 => ?_⟩
      have nq2 := hB2.noseq
      have hA3 := hA2.frame fr3 dj1 dj3
      have el4 := fr3 _ _ el2 (fun z => (nq2 l2 z _ (.inl el2)).1 _ rfl)
      have hx4 := dpa_fr nq2 fr3 _ hx2
      have hS3 := sql_fr nq2 fr3 hS2
      refine gnm8 rfl ?_
      refine ⟨_, rfl, _, rfl, p, ab2, l2, ys2, f2, rs2, rfl, hA3, el4, hx4, hR2, fun H6 s6 => ⟨_, rfl, ifbf rfl ?_⟩⟩
      refine ⟨_, rfl, _, rfl, _, rfl, b, l3, ys3, B3, W3, D3, rw3, n2, rfl, hB3.same s6, s6 _ _ el3, dpa_same s6 _ hx3, hW3, fun H7 s7 => ⟨_, rfl, ifbf rfl ?_⟩⟩
      have s8 := s6.trans s7
      exact ⟨l2, l3, ys2, ys3, ab2, f2, rs2, B3, W3, D3, rw3, n2, _, _, rfl, hA3.same s8, hB3.same s8, hR2, hW3, s8 _ _ el4, dpa_same s8 _ hx4, s8 _ _ el3, dpa_same s8 _ hx3, s8.seq hS3, dj1, dj3⟩
    · rintro σ G ⟨l, lw, ys, yw, ab, f, rs, B, W, D, rw_, now, x6, x7, rfl, hA, hB, hR, hW, el, hx, ew, hxw, hS, dj1, dj2⟩
      refine ⟨_, rfl, _, rfl, p, ab, l, ys, f, rs, rfl, hA, el, hx, hR, fun H6 s6 => ⟨true, rfl, ifbt rfl ?_⟩⟩
      refine fun p3 dx3 hp3 hdx3 npdx3 => ⟨p3, dx3, rfl, upd_same, fun ab3 H7 n7 hA7 f7 => ⟨rfl, ?_⟩⟩
      obtain ⟨dxr, obr⟩ := hA7.ob
      refine ⟨p3, dxr, _, rfl, obr, fl_Runs_no_slots, p3, ab3, _, rfl, hA7, fun zs L H8 hO hL s8 eL => ?_⟩
      have hz0 : zs = [] := by
        cases zs with
        | nil => rfl
        | cons z0 r => have := (hO.2.2 z0).mp List.mem_cons_self; cases this
      subst hz0
      refine ⟨(by show 0 ≤ sizeLine; decide), fun t ht => ?_⟩
      have s9 := same_upd (o := .lst []) ht
      refine ⟨.list [], .list [], .lst (sql (s9 _ _ eL)) .nil, .lst (sql upd_same) .nil, rfl, rfl, true, rfl, ifbt rfl ?_⟩
      refine fun p4 dx4 hp4 hdx4 npdx4 => ⟨p4, dx4, rfl, upd_same, fun b4 H9 eb4 m1 m2 m3 hB9 f9 => ⟨rfl, ?_⟩⟩
      subst eb4
      obtain ⟨dxq, obq⟩ := hB9.ob
      refine ⟨b4.p, dxq, _, rfl, obq, fl_Restarts_no_is_due, b4, _, _, _, _, 0, rfl, hB9, ?_⟩
      exact q _
end
theorem all_mk {l : PySem.W.OpenLaw} {w : World} {K : PySem.W.Frag} {h : Heap} {mg : Str → Option Value} {fa : Addr} (X : K.In h) (G : h.Ns mainGlobals mg) (hfa : mg "law" = some (.ref fa))
    {C_Restarts : Addr} {C_Runs : Addr} {f_Restarts___init__ : Addr} {od_Restarts___init__ an_Restarts___init__ : Option Addr} {sl_Restarts___init__ : Array (Option Value)} {oc_Restarts___init__ kV_Restarts___init__ dc_Restarts___init__ pm_Restarts___init__ cd_Restarts___init__ ct_Restarts___init__ : Value} {f_Restarts_begun : Addr} {od_Restarts_begun an_Restarts_begun : Option Addr} {sl_Restarts_begun : Array (Option Value)} {oc_Restarts_begun kV_Restarts_begun dc_Restarts_begun pm_Restarts_begun cd_Restarts_begun ct_Restarts_begun : Value} {f_Restarts_failed : Addr} {od_Restarts_failed an_Restarts_failed : Option Addr} {sl_Restarts_failed : Array (Option Value)} {oc_Restarts_failed kV_Restarts_failed dc_Restarts_failed pm_Restarts_failed cd_Restarts_failed ct_Restarts_failed : Value} {f_Restarts__next_wait : Addr} {od_Restarts__next_wait an_Restarts__next_wait : Option Addr} {sl_Restarts__next_wait : Array (Option Value)} {oc_Restarts__next_wait kV_Restarts__next_wait dc_Restarts__next_wait pm_Restarts__next_wait cd_Restarts__next_wait ct_Restarts__next_wait : Value} {f_Restarts_is_due : Addr} {od_Restarts_is_due an_Restarts_is_due : Option Addr} {sl_Restarts_is_due : Array (Option Value)} {oc_Restarts_is_due kV_Restarts_is_due dc_Restarts_is_due pm_Restarts_is_due cd_Restarts_is_due ct_Restarts_is_due : Value} {f_Restarts_forget : Addr} {od_Restarts_forget an_Restarts_forget : Option Addr} {sl_Restarts_forget : Array (Option Value)} {oc_Restarts_forget kV_Restarts_forget dc_Restarts_forget pm_Restarts_forget cd_Restarts_forget ct_Restarts_forget : Value} {f_Runs___init__ : Addr} {od_Runs___init__ an_Runs___init__ : Option Addr} {sl_Runs___init__ : Array (Option Value)} {oc_Runs___init__ kV_Runs___init__ dc_Runs___init__ pm_Runs___init__ cd_Runs___init__ ct_Runs___init__ : Value} {f_Runs_begin : Addr} {od_Runs_begin an_Runs_begin : Option Addr} {sl_Runs_begin : Array (Option Value)} {oc_Runs_begin kV_Runs_begin dc_Runs_begin pm_Runs_begin cd_Runs_begin ct_Runs_begin : Value} {f_Runs_end : Addr} {od_Runs_end an_Runs_end : Option Addr} {sl_Runs_end : Array (Option Value)} {oc_Runs_end kV_Runs_end dc_Runs_end pm_Runs_end cd_Runs_end ct_Runs_end : Value} {f_Runs_end_all : Addr} {od_Runs_end_all an_Runs_end_all : Option Addr} {sl_Runs_end_all : Array (Option Value)} {oc_Runs_end_all kV_Runs_end_all dc_Runs_end_all pm_Runs_end_all cd_Runs_end_all ct_Runs_end_all : Value} {f_Runs_born_of : Addr} {od_Runs_born_of an_Runs_born_of : Option Addr} {sl_Runs_born_of : Array (Option Value)} {oc_Runs_born_of kV_Runs_born_of dc_Runs_born_of pm_Runs_born_of cd_Runs_born_of ct_Runs_born_of : Value} {f_Runs_slots : Addr} {od_Runs_slots an_Runs_slots : Option Addr} {sl_Runs_slots : Array (Option Value)} {oc_Runs_slots kV_Runs_slots dc_Runs_slots pm_Runs_slots cd_Runs_slots ct_Runs_slots : Value} {f__law_number : Addr} {od__law_number an__law_number : Option Addr} {sl__law_number : Array (Option Value)} {oc__law_number kV__law_number dc__law_number pm__law_number cd__law_number ct__law_number : Value} {f__law_digits : Addr} {od__law_digits an__law_digits : Option Addr} {sl__law_digits : Array (Option Value)} {oc__law_digits kV__law_digits dc__law_digits pm__law_digits cd__law_digits ct__law_digits : Value} {f__law_runs_deed : Addr} {od__law_runs_deed an__law_runs_deed : Option Addr} {sl__law_runs_deed : Array (Option Value)} {oc__law_runs_deed kV__law_runs_deed dc__law_runs_deed pm__law_runs_deed cd__law_runs_deed ct__law_runs_deed : Value} {f__law_runs_agree : Addr} {od__law_runs_agree an__law_runs_agree : Option Addr} {sl__law_runs_agree : Array (Option Value)} {oc__law_runs_agree kV__law_runs_agree dc__law_runs_agree pm__law_runs_agree cd__law_runs_agree ct__law_runs_agree : Value} {f__law_failed : Addr} {od__law_failed an__law_failed : Option Addr} {sl__law_failed : Array (Option Value)} {oc__law_failed kV__law_failed dc__law_failed pm__law_failed cd__law_failed ct__law_failed : Value} {f__law_waits_deed : Addr} {od__law_waits_deed an__law_waits_deed : Option Addr} {sl__law_waits_deed : Array (Option Value)} {oc__law_waits_deed kV__law_waits_deed dc__law_waits_deed pm__law_waits_deed cd__law_waits_deed ct__law_waits_deed : Value} {f__law_waits_agree : Addr} {od__law_waits_agree an__law_waits_agree : Option Addr} {sl__law_waits_agree : Array (Option Value)} {oc__law_waits_agree kV__law_waits_agree dc__law_waits_agree pm__law_waits_agree cd__law_waits_agree ct__law_waits_agree : Value} {f_law : Addr} {od_law an_law : Option Addr} {sl_law : Array (Option Value)} {oc_law kV_law dc_law pm_law cd_law ct_law : Value} {t_FIRST_WAIT : Tok} {t_MOST_WAIT : Tok} {t_LONG_RUN : Tok}
    (gc_Restarts : PySem.W.nsIn K mainGlobals "Restarts" = some (some (.ref C_Restarts)))
    (m_Restarts___init__ : PySem.W.findIn K (.ref C_Restarts) "__init__" = some (some (.ref f_Restarts___init__)))
    (i_Restarts___init__ : PySem.W.isFn K (.ref f_Restarts___init__) = true)
    (l_Restarts___init__ : K.lookup f_Restarts___init__ = some ⟨oc_Restarts___init__, od_Restarts___init__, .func (PySem.W.fnOf "__init__" "Restarts.__init__" (defArgs s_Restarts___init__) (defBody s_Restarts___init__) (defScope s_Restarts___init__) .none kV_Restarts___init__ dc_Restarts___init__ pm_Restarts___init__ an_Restarts___init__ cd_Restarts___init__ ct_Restarts___init__), sl_Restarts___init__⟩)
    (c_Restarts___init__ : PySem.W.codeIn K cd_Restarts___init__ "Restarts.__init__" = true)
    (k_Restarts___init__ : PySem.W.keepIn K (.ref f_Restarts___init__) = true)
    (m_Restarts_begun : PySem.W.findIn K (.ref C_Restarts) "begun" = some (some (.ref f_Restarts_begun)))
    (i_Restarts_begun : PySem.W.isFn K (.ref f_Restarts_begun) = true)
    (l_Restarts_begun : K.lookup f_Restarts_begun = some ⟨oc_Restarts_begun, od_Restarts_begun, .func (PySem.W.fnOf "begun" "Restarts.begun" (defArgs s_Restarts_begun) (defBody s_Restarts_begun) (defScope s_Restarts_begun) .none kV_Restarts_begun dc_Restarts_begun pm_Restarts_begun an_Restarts_begun cd_Restarts_begun ct_Restarts_begun), sl_Restarts_begun⟩)
    (c_Restarts_begun : PySem.W.codeIn K cd_Restarts_begun "Restarts.begun" = true)
    (k_Restarts_begun : PySem.W.keepIn K (.ref f_Restarts_begun) = true)
    (m_Restarts_failed : PySem.W.findIn K (.ref C_Restarts) "failed" = some (some (.ref f_Restarts_failed)))
    (i_Restarts_failed : PySem.W.isFn K (.ref f_Restarts_failed) = true)
    (l_Restarts_failed : K.lookup f_Restarts_failed = some ⟨oc_Restarts_failed, od_Restarts_failed, .func (PySem.W.fnOf "failed" "Restarts.failed" (defArgs s_Restarts_failed) (defBody s_Restarts_failed) (defScope s_Restarts_failed) .none kV_Restarts_failed dc_Restarts_failed pm_Restarts_failed an_Restarts_failed cd_Restarts_failed ct_Restarts_failed), sl_Restarts_failed⟩)
    (c_Restarts_failed : PySem.W.codeIn K cd_Restarts_failed "Restarts.failed" = true)
    (k_Restarts_failed : PySem.W.keepIn K (.ref f_Restarts_failed) = true)
    (m_Restarts__next_wait : PySem.W.findIn K (.ref C_Restarts) "_next_wait" = some (some (.ref f_Restarts__next_wait)))
    (i_Restarts__next_wait : PySem.W.isFn K (.ref f_Restarts__next_wait) = true)
    (l_Restarts__next_wait : K.lookup f_Restarts__next_wait = some ⟨oc_Restarts__next_wait, od_Restarts__next_wait, .func (PySem.W.fnOf "_next_wait" "Restarts._next_wait" (defArgs s_Restarts__next_wait) (defBody s_Restarts__next_wait) (defScope s_Restarts__next_wait) .none kV_Restarts__next_wait dc_Restarts__next_wait pm_Restarts__next_wait an_Restarts__next_wait cd_Restarts__next_wait ct_Restarts__next_wait), sl_Restarts__next_wait⟩)
    (c_Restarts__next_wait : PySem.W.codeIn K cd_Restarts__next_wait "Restarts._next_wait" = true)
    (k_Restarts__next_wait : PySem.W.keepIn K (.ref f_Restarts__next_wait) = true)
    (m_Restarts_is_due : PySem.W.findIn K (.ref C_Restarts) "is_due" = some (some (.ref f_Restarts_is_due)))
    (i_Restarts_is_due : PySem.W.isFn K (.ref f_Restarts_is_due) = true)
    (l_Restarts_is_due : K.lookup f_Restarts_is_due = some ⟨oc_Restarts_is_due, od_Restarts_is_due, .func (PySem.W.fnOf "is_due" "Restarts.is_due" (defArgs s_Restarts_is_due) (defBody s_Restarts_is_due) (defScope s_Restarts_is_due) .none kV_Restarts_is_due dc_Restarts_is_due pm_Restarts_is_due an_Restarts_is_due cd_Restarts_is_due ct_Restarts_is_due), sl_Restarts_is_due⟩)
    (c_Restarts_is_due : PySem.W.codeIn K cd_Restarts_is_due "Restarts.is_due" = true)
    (k_Restarts_is_due : PySem.W.keepIn K (.ref f_Restarts_is_due) = true)
    (m_Restarts_forget : PySem.W.findIn K (.ref C_Restarts) "forget" = some (some (.ref f_Restarts_forget)))
    (i_Restarts_forget : PySem.W.isFn K (.ref f_Restarts_forget) = true)
    (l_Restarts_forget : K.lookup f_Restarts_forget = some ⟨oc_Restarts_forget, od_Restarts_forget, .func (PySem.W.fnOf "forget" "Restarts.forget" (defArgs s_Restarts_forget) (defBody s_Restarts_forget) (defScope s_Restarts_forget) .none kV_Restarts_forget dc_Restarts_forget pm_Restarts_forget an_Restarts_forget cd_Restarts_forget ct_Restarts_forget), sl_Restarts_forget⟩)
    (c_Restarts_forget : PySem.W.codeIn K cd_Restarts_forget "Restarts.forget" = true)
    (k_Restarts_forget : PySem.W.keepIn K (.ref f_Restarts_forget) = true)
    (gc_Runs : PySem.W.nsIn K mainGlobals "Runs" = some (some (.ref C_Runs)))
    (m_Runs___init__ : PySem.W.findIn K (.ref C_Runs) "__init__" = some (some (.ref f_Runs___init__)))
    (i_Runs___init__ : PySem.W.isFn K (.ref f_Runs___init__) = true)
    (l_Runs___init__ : K.lookup f_Runs___init__ = some ⟨oc_Runs___init__, od_Runs___init__, .func (PySem.W.fnOf "__init__" "Runs.__init__" (defArgs s_Runs___init__) (defBody s_Runs___init__) (defScope s_Runs___init__) .none kV_Runs___init__ dc_Runs___init__ pm_Runs___init__ an_Runs___init__ cd_Runs___init__ ct_Runs___init__), sl_Runs___init__⟩)
    (c_Runs___init__ : PySem.W.codeIn K cd_Runs___init__ "Runs.__init__" = true)
    (k_Runs___init__ : PySem.W.keepIn K (.ref f_Runs___init__) = true)
    (m_Runs_begin : PySem.W.findIn K (.ref C_Runs) "begin" = some (some (.ref f_Runs_begin)))
    (i_Runs_begin : PySem.W.isFn K (.ref f_Runs_begin) = true)
    (l_Runs_begin : K.lookup f_Runs_begin = some ⟨oc_Runs_begin, od_Runs_begin, .func (PySem.W.fnOf "begin" "Runs.begin" (defArgs s_Runs_begin) (defBody s_Runs_begin) (defScope s_Runs_begin) .none kV_Runs_begin dc_Runs_begin pm_Runs_begin an_Runs_begin cd_Runs_begin ct_Runs_begin), sl_Runs_begin⟩)
    (c_Runs_begin : PySem.W.codeIn K cd_Runs_begin "Runs.begin" = true)
    (k_Runs_begin : PySem.W.keepIn K (.ref f_Runs_begin) = true)
    (m_Runs_end : PySem.W.findIn K (.ref C_Runs) "end" = some (some (.ref f_Runs_end)))
    (i_Runs_end : PySem.W.isFn K (.ref f_Runs_end) = true)
    (l_Runs_end : K.lookup f_Runs_end = some ⟨oc_Runs_end, od_Runs_end, .func (PySem.W.fnOf "end" "Runs.end" (defArgs s_Runs_end) (defBody s_Runs_end) (defScope s_Runs_end) .none kV_Runs_end dc_Runs_end pm_Runs_end an_Runs_end cd_Runs_end ct_Runs_end), sl_Runs_end⟩)
    (c_Runs_end : PySem.W.codeIn K cd_Runs_end "Runs.end" = true)
    (k_Runs_end : PySem.W.keepIn K (.ref f_Runs_end) = true)
    (m_Runs_end_all : PySem.W.findIn K (.ref C_Runs) "end_all" = some (some (.ref f_Runs_end_all)))
    (i_Runs_end_all : PySem.W.isFn K (.ref f_Runs_end_all) = true)
    (l_Runs_end_all : K.lookup f_Runs_end_all = some ⟨oc_Runs_end_all, od_Runs_end_all, .func (PySem.W.fnOf "end_all" "Runs.end_all" (defArgs s_Runs_end_all) (defBody s_Runs_end_all) (defScope s_Runs_end_all) .none kV_Runs_end_all dc_Runs_end_all pm_Runs_end_all an_Runs_end_all cd_Runs_end_all ct_Runs_end_all), sl_Runs_end_all⟩)
    (c_Runs_end_all : PySem.W.codeIn K cd_Runs_end_all "Runs.end_all" = true)
    (k_Runs_end_all : PySem.W.keepIn K (.ref f_Runs_end_all) = true)
    (m_Runs_born_of : PySem.W.findIn K (.ref C_Runs) "born_of" = some (some (.ref f_Runs_born_of)))
    (i_Runs_born_of : PySem.W.isFn K (.ref f_Runs_born_of) = true)
    (l_Runs_born_of : K.lookup f_Runs_born_of = some ⟨oc_Runs_born_of, od_Runs_born_of, .func (PySem.W.fnOf "born_of" "Runs.born_of" (defArgs s_Runs_born_of) (defBody s_Runs_born_of) (defScope s_Runs_born_of) .none kV_Runs_born_of dc_Runs_born_of pm_Runs_born_of an_Runs_born_of cd_Runs_born_of ct_Runs_born_of), sl_Runs_born_of⟩)
    (c_Runs_born_of : PySem.W.codeIn K cd_Runs_born_of "Runs.born_of" = true)
    (k_Runs_born_of : PySem.W.keepIn K (.ref f_Runs_born_of) = true)
    (m_Runs_slots : PySem.W.findIn K (.ref C_Runs) "slots" = some (some (.ref f_Runs_slots)))
    (i_Runs_slots : PySem.W.isFn K (.ref f_Runs_slots) = true)
    (l_Runs_slots : K.lookup f_Runs_slots = some ⟨oc_Runs_slots, od_Runs_slots, .func (PySem.W.fnOf "slots" "Runs.slots" (defArgs s_Runs_slots) (defBody s_Runs_slots) (defScope s_Runs_slots) .none kV_Runs_slots dc_Runs_slots pm_Runs_slots an_Runs_slots cd_Runs_slots ct_Runs_slots), sl_Runs_slots⟩)
    (c_Runs_slots : PySem.W.codeIn K cd_Runs_slots "Runs.slots" = true)
    (k_Runs_slots : PySem.W.keepIn K (.ref f_Runs_slots) = true)
    (g__law_number : PySem.W.nsIn K mainGlobals "_law_number" = some (some (.ref f__law_number)))
    (l__law_number : K.lookup f__law_number = some ⟨oc__law_number, od__law_number, .func (PySem.W.fnOf "_law_number" "_law_number" (defArgs s__law_number) (defBody s__law_number) (defScope s__law_number) .none kV__law_number dc__law_number pm__law_number an__law_number cd__law_number ct__law_number), sl__law_number⟩)
    (c__law_number : PySem.W.codeIn K cd__law_number "_law_number" = true)
    (k__law_number : PySem.W.keepIn K (.ref f__law_number) = true)
    (g__law_digits : PySem.W.nsIn K mainGlobals "_law_digits" = some (some (.ref f__law_digits)))
    (l__law_digits : K.lookup f__law_digits = some ⟨oc__law_digits, od__law_digits, .func (PySem.W.fnOf "_law_digits" "_law_digits" (defArgs s__law_digits) (defBody s__law_digits) (defScope s__law_digits) .none kV__law_digits dc__law_digits pm__law_digits an__law_digits cd__law_digits ct__law_digits), sl__law_digits⟩)
    (c__law_digits : PySem.W.codeIn K cd__law_digits "_law_digits" = true)
    (k__law_digits : PySem.W.keepIn K (.ref f__law_digits) = true)
    (g__law_runs_deed : PySem.W.nsIn K mainGlobals "_law_runs_deed" = some (some (.ref f__law_runs_deed)))
    (l__law_runs_deed : K.lookup f__law_runs_deed = some ⟨oc__law_runs_deed, od__law_runs_deed, .func (PySem.W.fnOf "_law_runs_deed" "_law_runs_deed" (defArgs s__law_runs_deed) (defBody s__law_runs_deed) (defScope s__law_runs_deed) .none kV__law_runs_deed dc__law_runs_deed pm__law_runs_deed an__law_runs_deed cd__law_runs_deed ct__law_runs_deed), sl__law_runs_deed⟩)
    (c__law_runs_deed : PySem.W.codeIn K cd__law_runs_deed "_law_runs_deed" = true)
    (k__law_runs_deed : PySem.W.keepIn K (.ref f__law_runs_deed) = true)
    (g__law_runs_agree : PySem.W.nsIn K mainGlobals "_law_runs_agree" = some (some (.ref f__law_runs_agree)))
    (l__law_runs_agree : K.lookup f__law_runs_agree = some ⟨oc__law_runs_agree, od__law_runs_agree, .func (PySem.W.fnOf "_law_runs_agree" "_law_runs_agree" (defArgs s__law_runs_agree) (defBody s__law_runs_agree) (defScope s__law_runs_agree) .none kV__law_runs_agree dc__law_runs_agree pm__law_runs_agree an__law_runs_agree cd__law_runs_agree ct__law_runs_agree), sl__law_runs_agree⟩)
    (c__law_runs_agree : PySem.W.codeIn K cd__law_runs_agree "_law_runs_agree" = true)
    (k__law_runs_agree : PySem.W.keepIn K (.ref f__law_runs_agree) = true)
    (g__law_failed : PySem.W.nsIn K mainGlobals "_law_failed" = some (some (.ref f__law_failed)))
    (l__law_failed : K.lookup f__law_failed = some ⟨oc__law_failed, od__law_failed, .func (PySem.W.fnOf "_law_failed" "_law_failed" (defArgs s__law_failed) (defBody s__law_failed) (defScope s__law_failed) .none kV__law_failed dc__law_failed pm__law_failed an__law_failed cd__law_failed ct__law_failed), sl__law_failed⟩)
    (c__law_failed : PySem.W.codeIn K cd__law_failed "_law_failed" = true)
    (k__law_failed : PySem.W.keepIn K (.ref f__law_failed) = true)
    (g__law_waits_deed : PySem.W.nsIn K mainGlobals "_law_waits_deed" = some (some (.ref f__law_waits_deed)))
    (l__law_waits_deed : K.lookup f__law_waits_deed = some ⟨oc__law_waits_deed, od__law_waits_deed, .func (PySem.W.fnOf "_law_waits_deed" "_law_waits_deed" (defArgs s__law_waits_deed) (defBody s__law_waits_deed) (defScope s__law_waits_deed) .none kV__law_waits_deed dc__law_waits_deed pm__law_waits_deed an__law_waits_deed cd__law_waits_deed ct__law_waits_deed), sl__law_waits_deed⟩)
    (c__law_waits_deed : PySem.W.codeIn K cd__law_waits_deed "_law_waits_deed" = true)
    (k__law_waits_deed : PySem.W.keepIn K (.ref f__law_waits_deed) = true)
    (g__law_waits_agree : PySem.W.nsIn K mainGlobals "_law_waits_agree" = some (some (.ref f__law_waits_agree)))
    (l__law_waits_agree : K.lookup f__law_waits_agree = some ⟨oc__law_waits_agree, od__law_waits_agree, .func (PySem.W.fnOf "_law_waits_agree" "_law_waits_agree" (defArgs s__law_waits_agree) (defBody s__law_waits_agree) (defScope s__law_waits_agree) .none kV__law_waits_agree dc__law_waits_agree pm__law_waits_agree an__law_waits_agree cd__law_waits_agree ct__law_waits_agree), sl__law_waits_agree⟩)
    (c__law_waits_agree : PySem.W.codeIn K cd__law_waits_agree "_law_waits_agree" = true)
    (k__law_waits_agree : PySem.W.keepIn K (.ref f__law_waits_agree) = true)
    (g_law : PySem.W.nsIn K mainGlobals "law" = some (some (.ref f_law)))
    (l_law : K.lookup f_law = some ⟨oc_law, od_law, .func (PySem.W.fnOf "law" "law" (defArgs s_law) (defBody s_law) (defScope s_law) .none kV_law dc_law pm_law an_law cd_law ct_law), sl_law⟩)
    (c_law : PySem.W.codeIn K cd_law "law" = true)
    (k_law : PySem.W.keepIn K (.ref f_law) = true)
    (pg_Restarts : PySem.W.plainGet K C_Restarts Str.empty = true)
    (hd_Restarts : PySem.W.hasDictIn K C_Restarts = true)
    (po_Restarts : PySem.W.plainOver K C_Restarts = true)
    (sa_Restarts : PySem.W.findIn K (.ref C_Restarts) "__setattr__" = some (some (.builtin "object.__setattr__")))
    (mk_Restarts : PySem.W.makesIn K C_Restarts = true)
    (kc_Restarts : PySem.W.keepIn K (.ref C_Restarts) = true)
    (na_Restarts__begun : PySem.W.findIn K (.ref C_Restarts) "_begun" = some none)
    (na_Restarts__waits : PySem.W.findIn K (.ref C_Restarts) "_waits" = some none)
    (na_Restarts__due : PySem.W.findIn K (.ref C_Restarts) "_due" = some none)
    (pg_Runs : PySem.W.plainGet K C_Runs Str.empty = true)
    (hd_Runs : PySem.W.hasDictIn K C_Runs = true)
    (po_Runs : PySem.W.plainOver K C_Runs = true)
    (sa_Runs : PySem.W.findIn K (.ref C_Runs) "__setattr__" = some (some (.builtin "object.__setattr__")))
    (mk_Runs : PySem.W.makesIn K C_Runs = true)
    (kc_Runs : PySem.W.keepIn K (.ref C_Runs) = true)
    (na_Runs__borns : PySem.W.findIn K (.ref C_Runs) "_borns" = some none)
    (c_FIRST_WAIT : PySem.W.nsIn K mainGlobals "FIRST_WAIT" = some (some (.int 1 t_FIRST_WAIT)))
    (c_MOST_WAIT : PySem.W.nsIn K mainGlobals "MOST_WAIT" = some (some (.int 16 t_MOST_WAIT)))
    (c_LONG_RUN : PySem.W.nsIn K mainGlobals "LONG_RUN" = some (some (.int 32 t_LONG_RUN)))
    (n_len : PySem.W.nsIn K mainGlobals "len" = some none)
    (n_abs : PySem.W.nsIn K mainGlobals "abs" = some none)
    (n_int : PySem.W.nsIn K mainGlobals "int" = some none)
    (n_sorted : PySem.W.nsIn K mainGlobals "sorted" = some none)
    (n_min : PySem.W.nsIn K mainGlobals "min" = some none)
    (n_sum : PySem.W.nsIn K mainGlobals "sum" = some none)
    (n_max : PySem.W.nsIn K mainGlobals "max" = some none)
    (n_range : PySem.W.nsIn K mainGlobals "range" = some none) :
    ∃ fd : FuncData, (∀ (s : Shared) (v : Value), BindsTo s fd ⟨[v], []⟩ [("script", v)]) ∧ ∀ base : Heap, K.In base → base.Ns mainGlobals mg → FnOk l.prog w K mg base CX0 4 fa fd ["script"] (sp_law K) := by
  have e : fa = f_law := by
    have z := hfa.symm.trans (PySem.W.mg_of X G g_law)
    injection z with z
    injection z
  rw [e]
  let T : TX K mg := ⟨C_Restarts, C_Runs, f_Restarts___init__, (PySem.W.fnOf "__init__" "Restarts.__init__" (defArgs s_Restarts___init__) (defBody s_Restarts___init__) (defScope s_Restarts___init__) .none kV_Restarts___init__ dc_Restarts___init__ pm_Restarts___init__ an_Restarts___init__ cd_Restarts___init__ ct_Restarts___init__), (fun_mk (st := s_Restarts___init__) l_Restarts___init__ c_Restarts___init__ k_Restarts___init__), ((fun_mk (st := s_Restarts___init__) l_Restarts___init__ c_Restarts___init__ k_Restarts___init__).binds (ps := ["self"]) fun _ _ _ _ _ _ us hl => match us, hl with | [_], _ => rfl), f_Restarts_begun, (PySem.W.fnOf "begun" "Restarts.begun" (defArgs s_Restarts_begun) (defBody s_Restarts_begun) (defScope s_Restarts_begun) .none kV_Restarts_begun dc_Restarts_begun pm_Restarts_begun an_Restarts_begun cd_Restarts_begun ct_Restarts_begun), (fun_mk (st := s_Restarts_begun) l_Restarts_begun c_Restarts_begun k_Restarts_begun), ((fun_mk (st := s_Restarts_begun) l_Restarts_begun c_Restarts_begun k_Restarts_begun).binds (ps := ["self", "slot", "now"]) fun _ _ _ _ _ _ us hl => match us, hl with | [_, _, _], _ => rfl), ⟨m_Restarts_begun, i_Restarts_begun, k_Restarts_begun⟩, f_Restarts_failed, (PySem.W.fnOf "failed" "Restarts.failed" (defArgs s_Restarts_failed) (defBody s_Restarts_failed) (defScope s_Restarts_failed) .none kV_Restarts_failed dc_Restarts_failed pm_Restarts_failed an_Restarts_failed cd_Restarts_failed ct_Restarts_failed), (fun_mk (st := s_Restarts_failed) l_Restarts_failed c_Restarts_failed k_Restarts_failed), ((fun_mk (st := s_Restarts_failed) l_Restarts_failed c_Restarts_failed k_Restarts_failed).binds (ps := ["self", "slot", "now"]) fun _ _ _ _ _ _ us hl => match us, hl with | [_, _, _], _ => rfl), ⟨m_Restarts_failed, i_Restarts_failed, k_Restarts_failed⟩, f_Restarts__next_wait, (PySem.W.fnOf "_next_wait" "Restarts._next_wait" (defArgs s_Restarts__next_wait) (defBody s_Restarts__next_wait) (defScope s_Restarts__next_wait) .none kV_Restarts__next_wait dc_Restarts__next_wait pm_Restarts__next_wait an_Restarts__next_wait cd_Restarts__next_wait ct_Restarts__next_wait), (fun_mk (st := s_Restarts__next_wait) l_Restarts__next_wait c_Restarts__next_wait k_Restarts__next_wait), ((fun_mk (st := s_Restarts__next_wait) l_Restarts__next_wait c_Restarts__next_wait k_Restarts__next_wait).binds (ps := ["self", "slot", "now"]) fun _ _ _ _ _ _ us hl => match us, hl with | [_, _, _], _ => rfl), ⟨m_Restarts__next_wait, i_Restarts__next_wait, k_Restarts__next_wait⟩, f_Restarts_is_due, (PySem.W.fnOf "is_due" "Restarts.is_due" (defArgs s_Restarts_is_due) (defBody s_Restarts_is_due) (defScope s_Restarts_is_due) .none kV_Restarts_is_due dc_Restarts_is_due pm_Restarts_is_due an_Restarts_is_due cd_Restarts_is_due ct_Restarts_is_due), (fun_mk (st := s_Restarts_is_due) l_Restarts_is_due c_Restarts_is_due k_Restarts_is_due), ((fun_mk (st := s_Restarts_is_due) l_Restarts_is_due c_Restarts_is_due k_Restarts_is_due).binds (ps := ["self", "slot", "now"]) fun _ _ _ _ _ _ us hl => match us, hl with | [_, _, _], _ => rfl), ⟨m_Restarts_is_due, i_Restarts_is_due, k_Restarts_is_due⟩, f_Restarts_forget, (PySem.W.fnOf "forget" "Restarts.forget" (defArgs s_Restarts_forget) (defBody s_Restarts_forget) (defScope s_Restarts_forget) .none kV_Restarts_forget dc_Restarts_forget pm_Restarts_forget an_Restarts_forget cd_Restarts_forget ct_Restarts_forget), (fun_mk (st := s_Restarts_forget) l_Restarts_forget c_Restarts_forget k_Restarts_forget), ((fun_mk (st := s_Restarts_forget) l_Restarts_forget c_Restarts_forget k_Restarts_forget).binds (ps := ["self", "slot"]) fun _ _ _ _ _ _ us hl => match us, hl with | [_, _], _ => rfl), ⟨m_Restarts_forget, i_Restarts_forget, k_Restarts_forget⟩, f_Runs___init__, (PySem.W.fnOf "__init__" "Runs.__init__" (defArgs s_Runs___init__) (defBody s_Runs___init__) (defScope s_Runs___init__) .none kV_Runs___init__ dc_Runs___init__ pm_Runs___init__ an_Runs___init__ cd_Runs___init__ ct_Runs___init__), (fun_mk (st := s_Runs___init__) l_Runs___init__ c_Runs___init__ k_Runs___init__), ((fun_mk (st := s_Runs___init__) l_Runs___init__ c_Runs___init__ k_Runs___init__).binds (ps := ["self"]) fun _ _ _ _ _ _ us hl => match us, hl with | [_], _ => rfl), f_Runs_begin, (PySem.W.fnOf "begin" "Runs.begin" (defArgs s_Runs_begin) (defBody s_Runs_begin) (defScope s_Runs_begin) .none kV_Runs_begin dc_Runs_begin pm_Runs_begin an_Runs_begin cd_Runs_begin ct_Runs_begin), (fun_mk (st := s_Runs_begin) l_Runs_begin c_Runs_begin k_Runs_begin), ((fun_mk (st := s_Runs_begin) l_Runs_begin c_Runs_begin k_Runs_begin).binds (ps := ["self", "slot", "born"]) fun _ _ _ _ _ _ us hl => match us, hl with | [_, _, _], _ => rfl), ⟨m_Runs_begin, i_Runs_begin, k_Runs_begin⟩, f_Runs_end, (PySem.W.fnOf "end" "Runs.end" (defArgs s_Runs_end) (defBody s_Runs_end) (defScope s_Runs_end) .none kV_Runs_end dc_Runs_end pm_Runs_end an_Runs_end cd_Runs_end ct_Runs_end), (fun_mk (st := s_Runs_end) l_Runs_end c_Runs_end k_Runs_end), ((fun_mk (st := s_Runs_end) l_Runs_end c_Runs_end k_Runs_end).binds (ps := ["self", "slot"]) fun _ _ _ _ _ _ us hl => match us, hl with | [_, _], _ => rfl), ⟨m_Runs_end, i_Runs_end, k_Runs_end⟩, f_Runs_end_all, (PySem.W.fnOf "end_all" "Runs.end_all" (defArgs s_Runs_end_all) (defBody s_Runs_end_all) (defScope s_Runs_end_all) .none kV_Runs_end_all dc_Runs_end_all pm_Runs_end_all an_Runs_end_all cd_Runs_end_all ct_Runs_end_all), (fun_mk (st := s_Runs_end_all) l_Runs_end_all c_Runs_end_all k_Runs_end_all), ((fun_mk (st := s_Runs_end_all) l_Runs_end_all c_Runs_end_all k_Runs_end_all).binds (ps := ["self"]) fun _ _ _ _ _ _ us hl => match us, hl with | [_], _ => rfl), ⟨m_Runs_end_all, i_Runs_end_all, k_Runs_end_all⟩, f_Runs_born_of, (PySem.W.fnOf "born_of" "Runs.born_of" (defArgs s_Runs_born_of) (defBody s_Runs_born_of) (defScope s_Runs_born_of) .none kV_Runs_born_of dc_Runs_born_of pm_Runs_born_of an_Runs_born_of cd_Runs_born_of ct_Runs_born_of), (fun_mk (st := s_Runs_born_of) l_Runs_born_of c_Runs_born_of k_Runs_born_of), ((fun_mk (st := s_Runs_born_of) l_Runs_born_of c_Runs_born_of k_Runs_born_of).binds (ps := ["self", "slot"]) fun _ _ _ _ _ _ us hl => match us, hl with | [_, _], _ => rfl), ⟨m_Runs_born_of, i_Runs_born_of, k_Runs_born_of⟩, f_Runs_slots, (PySem.W.fnOf "slots" "Runs.slots" (defArgs s_Runs_slots) (defBody s_Runs_slots) (defScope s_Runs_slots) .none kV_Runs_slots dc_Runs_slots pm_Runs_slots an_Runs_slots cd_Runs_slots ct_Runs_slots), (fun_mk (st := s_Runs_slots) l_Runs_slots c_Runs_slots k_Runs_slots), ((fun_mk (st := s_Runs_slots) l_Runs_slots c_Runs_slots k_Runs_slots).binds (ps := ["self"]) fun _ _ _ _ _ _ us hl => match us, hl with | [_], _ => rfl), ⟨m_Runs_slots, i_Runs_slots, k_Runs_slots⟩, f__law_number, (PySem.W.fnOf "_law_number" "_law_number" (defArgs s__law_number) (defBody s__law_number) (defScope s__law_number) .none kV__law_number dc__law_number pm__law_number an__law_number cd__law_number ct__law_number), (fun_mk (st := s__law_number) l__law_number c__law_number k__law_number), ((fun_mk (st := s__law_number) l__law_number c__law_number k__law_number).binds (ps := ["script", "k"]) fun _ _ _ _ _ _ us hl => match us, hl with | [_, _], _ => rfl), (PySem.W.mg_of X G g__law_number), f__law_digits, (PySem.W.fnOf "_law_digits" "_law_digits" (defArgs s__law_digits) (defBody s__law_digits) (defScope s__law_digits) .none kV__law_digits dc__law_digits pm__law_digits an__law_digits cd__law_digits ct__law_digits), (fun_mk (st := s__law_digits) l__law_digits c__law_digits k__law_digits), ((fun_mk (st := s__law_digits) l__law_digits c__law_digits k__law_digits).binds (ps := ["script", "k", "sizes"]) fun _ _ _ _ _ _ us hl => match us, hl with | [_, _, _], _ => rfl), (PySem.W.mg_of X G g__law_digits), f__law_runs_deed, (PySem.W.fnOf "_law_runs_deed" "_law_runs_deed" (defArgs s__law_runs_deed) (defBody s__law_runs_deed) (defScope s__law_runs_deed) .none kV__law_runs_deed dc__law_runs_deed pm__law_runs_deed an__law_runs_deed cd__law_runs_deed ct__law_runs_deed), (fun_mk (st := s__law_runs_deed) l__law_runs_deed c__law_runs_deed k__law_runs_deed), ((fun_mk (st := s__law_runs_deed) l__law_runs_deed c__law_runs_deed k__law_runs_deed).binds (ps := ["runs", "rows", "digits"]) fun _ _ _ _ _ _ us hl => match us, hl with | [_, _, _], _ => rfl), (PySem.W.mg_of X G g__law_runs_deed), f__law_runs_agree, (PySem.W.fnOf "_law_runs_agree" "_law_runs_agree" (defArgs s__law_runs_agree) (defBody s__law_runs_agree) (defScope s__law_runs_agree) .none kV__law_runs_agree dc__law_runs_agree pm__law_runs_agree an__law_runs_agree cd__law_runs_agree ct__law_runs_agree), (fun_mk (st := s__law_runs_agree) l__law_runs_agree c__law_runs_agree k__law_runs_agree), ((fun_mk (st := s__law_runs_agree) l__law_runs_agree c__law_runs_agree k__law_runs_agree).binds (ps := ["runs", "rows"]) fun _ _ _ _ _ _ us hl => match us, hl with | [_, _], _ => rfl), (PySem.W.mg_of X G g__law_runs_agree), f__law_failed, (PySem.W.fnOf "_law_failed" "_law_failed" (defArgs s__law_failed) (defBody s__law_failed) (defScope s__law_failed) .none kV__law_failed dc__law_failed pm__law_failed an__law_failed cd__law_failed ct__law_failed), (fun_mk (st := s__law_failed) l__law_failed c__law_failed k__law_failed), ((fun_mk (st := s__law_failed) l__law_failed c__law_failed k__law_failed).binds (ps := ["row", "slot", "now"]) fun _ _ _ _ _ _ us hl => match us, hl with | [_, _, _], _ => rfl), (PySem.W.mg_of X G g__law_failed), f__law_waits_deed, (PySem.W.fnOf "_law_waits_deed" "_law_waits_deed" (defArgs s__law_waits_deed) (defBody s__law_waits_deed) (defScope s__law_waits_deed) .none kV__law_waits_deed dc__law_waits_deed pm__law_waits_deed an__law_waits_deed cd__law_waits_deed ct__law_waits_deed), (fun_mk (st := s__law_waits_deed) l__law_waits_deed c__law_waits_deed k__law_waits_deed), ((fun_mk (st := s__law_waits_deed) l__law_waits_deed c__law_waits_deed k__law_waits_deed).binds (ps := ["restarts", "rows", "digits", "now"]) fun _ _ _ _ _ _ us hl => match us, hl with | [_, _, _, _], _ => rfl), (PySem.W.mg_of X G g__law_waits_deed), f__law_waits_agree, (PySem.W.fnOf "_law_waits_agree" "_law_waits_agree" (defArgs s__law_waits_agree) (defBody s__law_waits_agree) (defScope s__law_waits_agree) .none kV__law_waits_agree dc__law_waits_agree pm__law_waits_agree an__law_waits_agree cd__law_waits_agree ct__law_waits_agree), (fun_mk (st := s__law_waits_agree) l__law_waits_agree c__law_waits_agree k__law_waits_agree), ((fun_mk (st := s__law_waits_agree) l__law_waits_agree c__law_waits_agree k__law_waits_agree).binds (ps := ["restarts", "rows", "now"]) fun _ _ _ _ _ _ us hl => match us, hl with | [_, _, _], _ => rfl), (PySem.W.mg_of X G g__law_waits_agree), f_law, (PySem.W.fnOf "law" "law" (defArgs s_law) (defBody s_law) (defScope s_law) .none kV_law dc_law pm_law an_law cd_law ct_law), (fun_mk (st := s_law) l_law c_law k_law), ((fun_mk (st := s_law) l_law c_law k_law).binds (ps := ["script"]) fun _ _ _ _ _ _ us hl => match us, hl with | [_], _ => rfl), (PySem.W.mg_of X G g_law), ⟨pg_Restarts, hd_Restarts, po_Restarts, sa_Restarts⟩, (PySem.W.mg_of X G gc_Restarts), ⟨mk_Restarts, m_Restarts___init__, i_Restarts___init__, kc_Restarts⟩, na_Restarts__begun, na_Restarts__waits, na_Restarts__due, ⟨pg_Runs, hd_Runs, po_Runs, sa_Runs⟩, (PySem.W.mg_of X G gc_Runs), ⟨mk_Runs, m_Runs___init__, i_Runs___init__, kc_Runs⟩, na_Runs__borns, t_FIRST_WAIT, (PySem.W.mg_of X G c_FIRST_WAIT), t_MOST_WAIT, (PySem.W.mg_of X G c_MOST_WAIT), t_LONG_RUN, (PySem.W.mg_of X G c_LONG_RUN), (PySem.W.mg_none_of X G n_len), (PySem.W.mg_none_of X G n_abs), (PySem.W.mg_none_of X G n_int), (PySem.W.mg_none_of X G n_sorted), (PySem.W.mg_none_of X G n_min), (PySem.W.mg_none_of X G n_sum), (PySem.W.mg_none_of X G n_max), (PySem.W.mg_none_of X G n_range)⟩
  exact ⟨T.d_law, fun s v => .of_eq rfl, fun base _ _ => ok_law T⟩
end My
open PySem PySem.W PyProof.Rows
set_option maxHeartbeats 0 in
theorem PySem.Challenge.cw_majordomo_k76_runs_and_restarts_holds : PySem.Challenge.rw_majordomo_k76_runs_and_restarts.Holds := by
  w_on; o_law; k_head; (case hw => w_witness2)
  k_fill
  refine L2.walk_of (l := PySem.Challenge.rw_majordomo_k76_runs_and_restarts) (n := 63) (k := 4) (x := "script") (CX := (fun _ => L2.CX0)) (sp := fun w => My.sp_law _) rfl (by decide) rfl ⟨rfl, by decide, by decide⟩ (fun w h Y => PySem.W.kIn_of Y) ?F (fun _ _ a ns hl _ hS => ⟨a, ns, rfl, hS, hl, fun _ => rfl⟩) (fun _ _ _ _ _ h => h)
  case F =>
    intro w mg fa h KX G hmg
    refine' My.all_mk KX G hmg ?gc_Restarts ?m_Restarts___init__ ?i_Restarts___init__ ?l_Restarts___init__ ?c_Restarts___init__ ?k_Restarts___init__ ?m_Restarts_begun ?i_Restarts_begun ?l_Restarts_begun ?c_Restarts_begun ?k_Restarts_begun ?m_Restarts_failed ?i_Restarts_failed ?l_Restarts_failed ?c_Restarts_failed ?k_Restarts_failed ?m_Restarts__next_wait ?i_Restarts__next_wait ?l_Restarts__next_wait ?c_Restarts__next_wait ?k_Restarts__next_wait ?m_Restarts_is_due ?i_Restarts_is_due ?l_Restarts_is_due ?c_Restarts_is_due ?k_Restarts_is_due ?m_Restarts_forget ?i_Restarts_forget ?l_Restarts_forget ?c_Restarts_forget ?k_Restarts_forget ?gc_Runs ?m_Runs___init__ ?i_Runs___init__ ?l_Runs___init__ ?c_Runs___init__ ?k_Runs___init__ ?m_Runs_begin ?i_Runs_begin ?l_Runs_begin ?c_Runs_begin ?k_Runs_begin ?m_Runs_end ?i_Runs_end ?l_Runs_end ?c_Runs_end ?k_Runs_end ?m_Runs_end_all ?i_Runs_end_all ?l_Runs_end_all ?c_Runs_end_all ?k_Runs_end_all ?m_Runs_born_of ?i_Runs_born_of ?l_Runs_born_of ?c_Runs_born_of ?k_Runs_born_of ?m_Runs_slots ?i_Runs_slots ?l_Runs_slots ?c_Runs_slots ?k_Runs_slots ?g__law_number ?l__law_number ?c__law_number ?k__law_number ?g__law_digits ?l__law_digits ?c__law_digits ?k__law_digits ?g__law_runs_deed ?l__law_runs_deed ?c__law_runs_deed ?k__law_runs_deed ?g__law_runs_agree ?l__law_runs_agree ?c__law_runs_agree ?k__law_runs_agree ?g__law_failed ?l__law_failed ?c__law_failed ?k__law_failed ?g__law_waits_deed ?l__law_waits_deed ?c__law_waits_deed ?k__law_waits_deed ?g__law_waits_agree ?l__law_waits_agree ?c__law_waits_agree ?k__law_waits_agree ?g_law ?l_law ?c_law ?k_law ?pg_Restarts ?hd_Restarts ?po_Restarts ?sa_Restarts ?mk_Restarts ?kc_Restarts ?na_Restarts__begun ?na_Restarts__waits ?na_Restarts__due ?pg_Runs ?hd_Runs ?po_Runs ?sa_Runs ?mk_Runs ?kc_Runs ?na_Runs__borns ?c_FIRST_WAIT ?c_MOST_WAIT ?c_LONG_RUN ?n_len ?n_abs ?n_int ?n_sorted ?n_min ?n_sum ?n_max ?n_range
    (case gc_Restarts => k_is); (case m_Restarts___init__ => k_is); (case i_Restarts___init__ => k_is); (case l_Restarts___init__ => k_is); (case c_Restarts___init__ => k_is); (case k_Restarts___init__ => k_is); (case m_Restarts_begun => k_is); (case i_Restarts_begun => k_is); (case l_Restarts_begun => k_is); (case c_Restarts_begun => k_is); (case k_Restarts_begun => k_is); (case m_Restarts_failed => k_is); (case i_Restarts_failed => k_is); (case l_Restarts_failed => k_is); (case c_Restarts_failed => k_is); (case k_Restarts_failed => k_is); (case m_Restarts__next_wait => k_is); (case i_Restarts__next_wait => k_is); (case l_Restarts__next_wait => k_is); (case c_Restarts__next_wait => k_is); (case k_Restarts__next_wait => k_is); (case m_Restarts_is_due => k_is); (case i_Restarts_is_due => k_is); (case l_Restarts_is_due => k_is); (case c_Restarts_is_due => k_is); (case k_Restarts_is_due => k_is); (case m_Restarts_forget => k_is); (case i_Restarts_forget => k_is); (case l_Restarts_forget => k_is); (case c_Restarts_forget => k_is); (case k_Restarts_forget => k_is); (case gc_Runs => k_is); (case m_Runs___init__ => k_is); (case i_Runs___init__ => k_is); (case l_Runs___init__ => k_is); (case c_Runs___init__ => k_is); (case k_Runs___init__ => k_is); (case m_Runs_begin => k_is); (case i_Runs_begin => k_is); (case l_Runs_begin => k_is); (case c_Runs_begin => k_is); (case k_Runs_begin => k_is); (case m_Runs_end => k_is); (case i_Runs_end => k_is); (case l_Runs_end => k_is); (case c_Runs_end => k_is); (case k_Runs_end => k_is); (case m_Runs_end_all => k_is); (case i_Runs_end_all => k_is); (case l_Runs_end_all => k_is); (case c_Runs_end_all => k_is); (case k_Runs_end_all => k_is); (case m_Runs_born_of => k_is); (case i_Runs_born_of => k_is); (case l_Runs_born_of => k_is); (case c_Runs_born_of => k_is); (case k_Runs_born_of => k_is); (case m_Runs_slots => k_is); (case i_Runs_slots => k_is); (case l_Runs_slots => k_is); (case c_Runs_slots => k_is); (case k_Runs_slots => k_is); (case g__law_number => k_is); (case l__law_number => k_is); (case c__law_number => k_is); (case k__law_number => k_is); (case g__law_digits => k_is); (case l__law_digits => k_is); (case c__law_digits => k_is); (case k__law_digits => k_is); (case g__law_runs_deed => k_is); (case l__law_runs_deed => k_is); (case c__law_runs_deed => k_is); (case k__law_runs_deed => k_is); (case g__law_runs_agree => k_is); (case l__law_runs_agree => k_is); (case c__law_runs_agree => k_is); (case k__law_runs_agree => k_is); (case g__law_failed => k_is); (case l__law_failed => k_is); (case c__law_failed => k_is); (case k__law_failed => k_is); (case g__law_waits_deed => k_is); (case l__law_waits_deed => k_is); (case c__law_waits_deed => k_is); (case k__law_waits_deed => k_is); (case g__law_waits_agree => k_is); (case l__law_waits_agree => k_is); (case c__law_waits_agree => k_is); (case k__law_waits_agree => k_is); (case g_law => k_is); (case l_law => k_is); (case c_law => k_is); (case k_law => k_is); (case pg_Restarts => k_is); (case hd_Restarts => k_is); (case po_Restarts => k_is); (case sa_Restarts => k_is); (case mk_Restarts => k_is); (case kc_Restarts => k_is); (case na_Restarts__begun => k_is); (case na_Restarts__waits => k_is); (case na_Restarts__due => k_is); (case pg_Runs => k_is); (case hd_Runs => k_is); (case po_Runs => k_is); (case sa_Runs => k_is); (case mk_Runs => k_is); (case kc_Runs => k_is); (case na_Runs__borns => k_is); (case c_FIRST_WAIT => k_is); (case c_MOST_WAIT => k_is); (case c_LONG_RUN => k_is); (case n_len => k_is); (case n_abs => k_is); (case n_int => k_is); (case n_sorted => k_is); (case n_min => k_is); (case n_sum => k_is); (case n_max => k_is); (case n_range => k_is)

