import PyProof.Rows.All
import Wide.All
import OpenK.AllK
import Wide.FinOn
import HandS.ForMost
import HandS.IsInst
import HandS.EndBits
import HandS.Wide
import HandS.WideBits
import HandS.TupAny
import HandS.Codes
import HandS.Defaults
import HandS.ForExc
import HandS.TryMany
import HandS.ExcIs
import HandS.TryElse
import HandS.DictComp
import HandS.Walk
import HandS.NoneIn
import HandS.TupLe
import PySem.Challenge.RW_majordomo_k69_tasks_of_a_service
set_option Elab.async false
set_option linter.all false
set_option maxRecDepth 100000
set_option maxHeartbeats 4000000

namespace My
open PySem PySem.Spec PyProof.Rows L2
/-! own words: tests, heaps, items -/
theorem ifd {p A B : Prop} [Decidable p] (h1 : p → A) (h2 : ¬ p → B) : if decide p = true then A else B := by
  by_cases h : p
  · rw [decide_eq_true h]; exact (if_pos rfl).mpr (h1 h)
  · rw [decide_eq_false h]; exact (if_neg Bool.false_ne_true).mpr (h2 h)
theorem ifn {p A B : Prop} [Decidable p] (h1 : ¬ p → A) (h2 : p → B) : if (!decide p) = true then A else B := by
  by_cases h : p
  · rw [decide_eq_true h]; exact (if_neg Bool.false_ne_true).mpr (h2 h)
  · rw [decide_eq_false h]; exact (if_pos rfl).mpr (h1 h)
theorem ift {p A B : Prop} [Decidable p] (h : p) (h1 : A) : if decide p = true then A else B := by
  rw [decide_eq_true h]; exact (if_pos rfl).mpr h1
theorem iff0 {p A B : Prop} [Decidable p] (h : ¬ p) (h1 : B) : if decide p = true then A else B := by
  rw [decide_eq_false h]; exact (if_neg Bool.false_ne_true).mpr h1
theorem ifnt {p A B : Prop} [Decidable p] (h : p) (h1 : B) : if (!decide p) = true then A else B := by
  rw [decide_eq_true h]; exact (if_neg Bool.false_ne_true).mpr h1
theorem ifbt {b : Bool} {A B : Prop} (h : b = true) (h1 : A) : if b = true then A else B := (if_pos h).mpr h1
theorem ifbf {b : Bool} {A B : Prop} (h : b = false) (h1 : B) : if b = true then A else B := by rw [h]; exact h1
theorem ifb2 {b : Bool} {A B : Prop} (h1 : b = true → A) (h2 : b = false → B) : if b = true then A else B := by
  cases b with
  | true => exact h1 rfl
  | false => exact h2 rfl
theorem same_upd {H : Hp} {p : Addr} {o : HO} (h : H p = none) : Same H (upd H p o) := fun b x e => by
  rw [upd_ne (ne_of_none e h)]
  exact e
theorem same_put {H H' : Hp} {p : Addr} {o : HO} (e : Same H H') (h : H p = none) : Same H (upd H' p o) := fun b x q => by
  rw [upd_ne (ne_of_none q h)]
  exact e b x q
theorem sqt_same {K : PySem.W.Frag} {H H' : Hp} {a : Addr} {xs : List V} (e : Same H H') (h : SqT K H a xs) : SqT K H' a xs := by
  rcases h with (h | ⟨o, h⟩) | h
  · exact .inl (.inl (e _ _ h))
  · exact .inl (.inr ⟨o, e _ _ h⟩)
  · exact .inr h
theorem sql {K : PySem.W.Frag} {H : Hp} {a : Addr} {xs : List V} (h : H a = some (.lst xs)) : SqL K H a xs := .inl (.inl h)
theorem sqt {K : PySem.W.Frag} {H : Hp} {a : Addr} {xs : List V} (h : H a = some (.tup xs)) : SqT K H a xs := .inl (.inl h)
theorem sz {n : Nat} (h : n ≤ 100000) : n ≤ sizeLine := Nat.le_trans h (by decide)
theorem szl {n : Nat} (h : n ≤ 100000) : n < sizeLine := Nat.lt_of_le_of_lt h (by decide)
theorem map_at {α : Type} {f : α → V} {xs : List α} {i : Nat} {y : V} (h : (xs.map f)[i]? = some y) : ∃ x, xs[i]? = some x ∧ y = f x := by
  rw [List.getElem?_map] at h
  cases e : xs[i]? with
  | none => rw [e] at h; cases h
  | some x => rw [e] at h; exact ⟨x, rfl, (Option.some.inj h).symm⟩
theorem at_map {α : Type} {f : α → V} {xs : List α} {i : Nat} {x : α} (h : xs[i]? = some x) : atI (xs.map f) (i : Int) = some (f x) := atI_nat (by rw [List.getElem?_map, h]; rfl)
theorem take_more {α : Type} {l : List α} {i : Nat} {x : α} (h : l[i]? = some x) : l.take (i + 1) = l.take i ++ [x] := by
  rw [List.take_add_one, h]; rfl
/-! deep data stands as long as what was tracked stands -/
mutual
theorem dp_same {K : PySem.W.Frag} {H H' : Hp} (e : Same H H') : ∀ (d : PyData) {v : V}, Dp K H v d → Dp K H' v d
  | _, _, .non => .non
  | _, _, .bl b => .bl b
  | _, _, .int i => .int i
  | _, _, .str x => .str x
  | .list ds, _, .lst h a => .lst (e.seq h) (dpa_same e ds a)
  | .tuple ds, _, .tup h a => .tup (sqt_same e h) (dpa_same e ds a)
theorem dpa_same {K : PySem.W.Frag} {H H' : Hp} (e : Same H H') : ∀ (ds : List PyData) {vs : List V}, DpAll K H vs ds → DpAll K H' vs ds
  | [], _, .nil => .nil
  | d :: ds, _, .cons h a => .cons (dp_same e d h) (dpa_same e ds a)
end
theorem dpa_len {K : PySem.W.Frag} {H : Hp} : ∀ {vs : List V} {ds : List PyData}, DpAll K H vs ds → vs.length = ds.length
  | _, _, .nil => rfl
  | _, _, .cons _ a => by rw [List.length_cons, List.length_cons, dpa_len a]
theorem dpa_at {K : PySem.W.Frag} {H : Hp} : ∀ {vs : List V} {ds : List PyData} {i : Nat} {v : V}, DpAll K H vs ds → vs[i]? = some v → ∃ d, ds[i]? = some d ∧ Dp K H v d
  | _, _, _, _, .nil, h => by simp at h
  | _, _, 0, _, .cons h _, e => ⟨_, rfl, by have := Option.some.inj e; subst this; exact h⟩
  | _, _, i + 1, _, .cons _ a, e => dpa_at (i := i) a (by simpa using e)
theorem dpa_app {K : PySem.W.Frag} {H : Hp} : ∀ {vs ws : List V} {ds es : List PyData}, DpAll K H vs ds → DpAll K H ws es → DpAll K H (vs ++ ws) (ds ++ es)
  | _, _, _, _, .nil, b => b
  | _, _, _, _, .cons h a, b => .cons h (dpa_app a b)
theorem eqv_self {d : PyData} (h : SeqAt.shaped d = true) : PyData.eqv d d = true := SeqAt.eqv_refl d (SeqAt.canLay_of_shaped h)
/-! data that may be compared -/
theorem layAll : ∀ {ds : List PyData}, (∀ d ∈ ds, d.canLay0 = true) → PyData.canLayAll0 ds = true
  | [], _ => rfl
  | d :: ds, h => by
    rw [PyData.canLayAll0, h d List.mem_cons_self, layAll fun e he => h e (List.mem_cons_of_mem _ he)]; rfl
theorem depAll {n : Nat} : ∀ {ds : List PyData}, (∀ d ∈ ds, d.depth ≤ n) → PyData.depthAll ds ≤ n
  | [], _ => Nat.zero_le _
  | d :: ds, h => by
    have h1 := h d List.mem_cons_self
    have h2 := depAll (ds := ds) fun e he => h e (List.mem_cons_of_mem _ he)
    simp only [PyData.depthAll]
    omega
/-- plain data of at most this depth -/
def Flat (n : Nat) (d : PyData) : Prop := d.canLay0 = true ∧ d.depth ≤ n
theorem flat_list {n : Nat} {ds : List PyData} (h : ∀ d ∈ ds, Flat n d) : Flat (n + 1) (.list ds) :=
  ⟨by rw [PyData.canLay0]; exact layAll fun d hd => (h d hd).1, by have := depAll (n := n) fun d hd => (h d hd).2; simp only [PyData.depth]; omega⟩
theorem flat_tup {n : Nat} {ds : List PyData} (h : ∀ d ∈ ds, Flat n d) : Flat (n + 1) (.tuple ds) :=
  ⟨by rw [PyData.canLay0]; exact layAll fun d hd => (h d hd).1, by have := depAll (n := n) fun d hd => (h d hd).2; simp only [PyData.depth]; omega⟩
theorem flat_int (n : Nat) (i : Int) : Flat n (.int i) := ⟨rfl, by simp [PyData.depth]⟩
theorem flat_str (n : Nat) (x : Str) (h : (PyData.str x).canLay0 = true := by decide +kernel) : Flat n (.str x) := ⟨h, by simp [PyData.depth]⟩
theorem flat_bl (n : Nat) (b : Bool) : Flat n (.bool b) := ⟨rfl, by simp [PyData.depth]⟩
theorem flat_non (n : Nat) : Flat n .none := ⟨rfl, by simp [PyData.depth]⟩
theorem Flat.mono {n m : Nat} {d : PyData} (h : Flat n d) (hm : n ≤ m) : Flat m d := ⟨h.1, Nat.le_trans h.2 hm⟩
theorem Flat.sh {n : Nat} {d : PyData} (h : Flat n d) (hn : n ≤ 64) : SeqAt.shaped d = true := by
  show (d.canLay0 && decide (d.depth ≤ 64)) = true
  rw [Bool.and_eq_true]
  exact ⟨h.1, decide_eq_true (Nat.le_trans h.2 hn)⟩
theorem tyx_t {K : PySem.W.Frag} {H : Hp} {a : Addr} {xs : List V} (h : SqT K H a xs) : TyX K H (.ref a) (.type "tuple") := by
  rcases h with (h | ⟨o, h⟩) | ⟨o, its, n, h, hc, _⟩
  · exact .base (.tup h)
  · exact .fTuple h
  · exact .kTuple h hc
theorem tyx_l {K : PySem.W.Frag} {H : Hp} {a : Addr} {xs : List V} (h : SqL K H a xs) : TyX K H (.ref a) (.type "list") := by
  rcases h with (h | ⟨o, h⟩) | ⟨o, its, n, h, hc, _⟩
  · exact .base (.lst h)
  · exact .base (.frz h)
  · exact .kList h hc
theorem same_both {G H : Hp} {t : Addr} {x : HO} (e : Same G H) : Same (upd G t x) (upd H t x) := fun b o h => by
  by_cases hb : b = t
  · subst hb; rw [upd_same] at h ⊢; exact h
  · rw [upd_ne hb] at h ⊢; exact e b o h
theorem set_self {α : Type} : ∀ {l : List α} {i : Nat} {x : α}, l[i]? = some x → l.set i x = l
  | [], i, x, h => by simp at h
  | a :: l, 0, x, h => by
    have e : a = x := Option.some.inj h
    subst e
    rfl
  | a :: l, i + 1, x, h => by
    show a :: l.set i x = a :: l
    rw [set_self (by simpa using h)]
theorem ixn {n j : Nat} {i : Int} (hi : i = (j : Int)) (hj : j < n) : ixN n i = some j := by
  unfold ixN
  rw [if_pos (by omega), if_pos (by omega)]
  congr 1
  omega
/-! shifts and masks in place -/
section
variable {X : Cx}
theorem ip_shr : PIp X .RShift (fun x y H Q => ∃ (i : Int) (k : Nat), x = .int i ∧ y = .int (k : Int) ∧ Q (.int (i / 2 ^ k)) H) := by
  intro pins s σ H x y v u Q I r1 r2 h
  obtain ⟨i, k, e1, e2, q⟩ := h
  subst e1; subst e2
  obtain ⟨t, rfl⟩ := r1
  obtain ⟨t', rfl⟩ := r2
  refine irshift_int (Int.natCast_nonneg k) ⟨.int _, H, I.tok _, ⟨_, rfl⟩, ?_⟩
  rw [Int.toNat_natCast, Int.fdiv_eq_ediv_of_nonneg _ (Int.le_of_lt (Int.pow_pos (by decide)))]
  exact q
theorem ip_or : PIp X .BitOr (fun x y H Q => ∃ (r a : Int) (k : Nat), x = .int r ∧ y = .int (a * 2 ^ k) ∧ (0 ≤ a ∧ 0 ≤ r ∧ r < 2 ^ k) ∧ Q (.int (r + a * 2 ^ k)) H) := by
  intro pins s σ H x y v u Q I r1 r2 h
  obtain ⟨r, a, k, e1, e2, ⟨h0, h1, h2⟩, q⟩ := h
  subst e1; subst e2
  obtain ⟨t, rfl⟩ := r1
  obtain ⟨t', rfl⟩ := r2
  refine ior_int ⟨.int _, H, I.tok _, ⟨_, rfl⟩, ?_⟩
  have e : Builtin.bitOr r (a * 2 ^ k) = r + a * 2 ^ k := by
    have hp : (0 : Int) ≤ a * 2 ^ k := Int.mul_nonneg h0 (Int.le_of_lt (Int.pow_pos (by decide)))
    rw [bitOr_nn h1 hp, Nat.or_comm, ← bitOr_nn hp h1, or_low h0 h1 h2, Int.add_comm]
  rw [e]
  exact q
end
theorem bits_small : ∀ n : Nat, n < 128 → Builtin.Int.intBits (n : Int) ≤ 8 := by decide +kernel
/-- isinstance(e, c) of the error that a suite holds, its class known by the reading -/
theorem call_isE1 {X : Cx} {a D : Addr} {oe : Obj} {cls : Value} {d : Option Addr} {pn : List (Addr × Obj)} (C : ExcC X.K D) (hz : Zc cls d oe) (hf : ∃ vs, oe.data = .fields vs) :
    CallR (X.suite a ((a, oe) :: pn)) (.builtin "isinstance") (fun xs H Q => cls = .ref D ∧ d = none ∧ rIsE X.K D a xs H Q) := fun pins s σ H xs us Q I r h => by
  obtain ⟨h1, h2, h⟩ := h
  subst h1
  subst h2
  exact call_isE C hz hf pins s σ H xs us Q I r h
/-! slices -/
theorem sIx_le {n d : Nat} {i : Nat} : HT.sIx n d (some (i : Int)) = min i n := HT.sIx_nat n d i
theorem cut0n (xs : List V) (j : Nat) : cutV xs none (some (j : Int)) = xs.take j := by
  unfold cutV
  rw [sIx_le, HT.sIx_none, List.drop_zero, Nat.sub_zero]
  exact (List.take_eq_take_min).symm
theorem cutnn (xs : List V) (i j : Nat) : cutV xs (some (i : Int)) (some (j : Int)) = (xs.drop i).take (j - i) := by
  unfold cutV
  rw [sIx_le, sIx_le]
  by_cases hi : i ≤ xs.length
  · rw [Nat.min_eq_left hi]
    by_cases hj : j ≤ xs.length
    · rw [Nat.min_eq_left hj]
    · rw [Nat.min_eq_right (by omega), List.take_of_length_le (by rw [List.length_drop]; omega), List.take_of_length_le (by rw [List.length_drop]; omega)]
  · have e : min i xs.length = xs.length := by omega
    rw [e, List.drop_of_length_le (Nat.le_refl _), List.drop_of_length_le (show xs.length ≤ i by omega), List.take_nil, List.take_nil]
theorem cut_ints (ns : List Int) {i j : Nat} {a b : Int} (ha : a = i) (hb : b = j) : cutV (ns.map V.int) (some a) (some b) = ((ns.drop i).take (j - i)).map V.int := by
  rw [ha, hb, cutnn, ← List.map_drop, ← List.map_take]
theorem rep_ints (ns : List Int) (k : Nat) : (List.replicate k (ns.map V.int)).flatten = (List.replicate k ns).flatten.map V.int := by
  rw [List.map_flatten, List.map_replicate]
/-- [e for x in a slice], e changes nothing -/
theorem lc_cut {K : PySem.W.Frag} {wi : TI} {te : TE} {s : Nat} {σ : L2.St} {H : Hp} {Q : VK} (xs : List V) (f : V → V)
    (hwi : ∀ R : It → Hp → Prop, (∀ p, H p = none → R (Itl K p) (upd H p (.lst xs))) → wi σ H R) (hlen : xs.length ≤ 90000)
    (hw : ∀ x, wipe ((wipe σ [s]).set s (some x)) [s] = wipe σ [s])
    (he : ∀ (i : Nat) (x : V) (G : Hp) (Q' : VK), xs[i]? = some x → Same H G → Q' (f x) G → te ((wipe σ [s]).set s (some x)) G Q')
    (k : ∀ D H', H D = none → Same H H' → H' D = some (.lst (xs.map f)) → Q (.ref D) H') : tLc wi (gName s) tYes te [s] σ H Q := by
  refine hwi _ fun p hp D hD => ?_
  have nD : D ≠ p := fun z => by rw [z, upd_same] at hD; cases hD
  have hD0 : H D = none := by rw [upd_ne nD] at hD; exact hD
  refine lc_list (K := K) (a := p) (xs := xs) (fun i H' => Same H H' ∧ H' p = some (.lst xs) ∧ H' D = some (.lst ((xs.take i).map f)))
    ⟨(same_upd hp).trans (same_upd hD), by rw [upd_ne nD.symm, upd_same], by rw [upd_same]; rfl⟩ (fun i H' _ h => sql h.2.1) (fun i x G hx hG => ?_) (fun G hG => ?_)
  · refine ⟨hw x, ?_⟩
    refine he i x G _ hx hG.1 ⟨_, hG.2.2, szl (by rw [List.length_map, List.length_take]; omega), same_put hG.1 hD0, by rw [upd_ne nD.symm]; exact hG.2.1, ?_⟩
    rw [upd_same, take_more hx, List.map_append]
    rfl
  · refine k D G hD0 hG.1 ?_
    rw [List.take_length] at hG
    exact hG.2.2
/-- lists of ints as data -/
theorem dpa_ints {K : PySem.W.Frag} {H : Hp} : ∀ ns : List Int, DpAll K H (ns.map V.int) (ns.map PyData.int)
  | [] => .nil
  | n :: ns => .cons (.int n) (dpa_ints ns)
theorem dp_ints {K : PySem.W.Frag} {H : Hp} {a : Addr} {ns : List Int} (h : SqL K H a (ns.map V.int)) : Dp K H (.ref a) (.list (ns.map PyData.int)) := .lst h (dpa_ints ns)
theorem flat_ints (ns : List Int) : Flat 1 (.list (ns.map PyData.int)) := flat_list (n := 0) fun d hd => by
  obtain ⟨i, _, rfl⟩ := List.mem_map.mp hd
  exact flat_int _ _
theorem flat_tints (ns : List Int) : Flat 1 (.tuple (ns.map PyData.int)) := flat_tup (n := 0) fun d hd => by
  obtain ⟨i, _, rfl⟩ := List.mem_map.mp hd
  exact flat_int _ _
theorem eqvAll_ints : ∀ xs ys : List Int, PyData.eqvAll (xs.map .int) (ys.map .int) = decide (xs = ys)
  | [], [] => rfl
  | [], _ :: _ => rfl
  | _ :: _, [] => rfl
  | x :: xs, y :: ys => by
    show ((x == y) && PyData.eqvAll (xs.map .int) (ys.map .int)) = _
    rw [eqvAll_ints xs ys, Bool.eq_iff_iff]
    simp
theorem eqv_ints (xs ys : List Int) : PyData.eqv (.list (xs.map .int)) (.list (ys.map .int)) = decide (xs = ys) := eqvAll_ints xs ys
theorem eqv_tints (xs ys : List Int) : PyData.eqv (.tuple (xs.map .int)) (.tuple (ys.map .int)) = decide (xs = ys) := eqvAll_ints xs ys
/-- a def with defaults that lets nothing out -/
theorem okD {P : Program} {w : World} {K : PySem.W.Frag} {mg : Str → Option Value} {base : Heap} {x qual : Str} {params : Arguments} {body : List Stmt} {scope : Scope} {dvs : List V} {kws : List (Str × V)} {f : Addr} {fd : FuncData} {N ps : List Str} {k : Nat} {sp : Sp}
    (F : FunD K x qual params body scope dvs kws f fd) (S : FnScope N ps scope) (len : ∀ vs H Q E, sp vs H Q E → vs.length = ps.length)
    (hb : ∀ (cdv : Value) (A : Around) (outer : List Env) (s : Shared) (H : Hp) (vs : List V) (Q : VK) (E : XK), Room k (A.deeper (envOfC qual scope s.heap.objs.size f cdv)) → sp vs H Q E →
      ∃ t, PSs (cxOf CX0 P w K mg base N qual scope f cdv A outer s H E).nox body t ∧ t { nx := fun _ H' => Q .non H', rt := Q } (start N vs) H) : FnOk P w K mg base CX0 (k + 1) f fd ps sp :=
  F.ok S len fun cdv A outer s H vs Q E hr h => by
    obtain ⟨t, h1, q⟩ := hb cdv A outer s H vs Q E hr h
    exact ⟨t, h1.nox, q⟩
/-! what an expression gives, whatever stands besides -/
def EI (te : TE) (σ : L2.St) (H : Hp) (v : V) : Prop := ∀ G, Same H G → ∀ Q : VK, Q v G → te σ G Q
def EA (ta : TA) (σ : L2.St) (H : Hp) (vs : List V) : Prop := ∀ G, Same H G → ∀ Q : List V → Hp → Prop, Q vs G → ta σ G Q
/-- a list, new or old -/
def EL (te : TE) (σ : L2.St) (H : Hp) (xs : List V) : Prop := ∀ G, Same H G → ∀ Q : VK, (∀ p G', Same G G' → G' p = some (.lst xs) → Q (.ref p) G') → te σ G Q
section
variable {K : PySem.W.Frag} {σ : L2.St} {H : Hp} {ta tb te : TE} {x y z v : V} {xs ys : List V}
theorem ei_var {i : Nat} (h : σ[i]? = some (some v)) : EI (tVar i) σ H v := fun _ _ _ q => ⟨v, h, q⟩
theorem ei_c : EI (tC v) σ H v := fun _ _ _ q => q
theorem ei_op {r : R2} (ha : EI ta σ H x) (hb : EI tb σ H y) (hr : ∀ G, Same H G → ∀ Q : VK, Q z G → r x y G Q) : EI (tOp r ta tb) σ H z := fun G s Q q => ha G s _ (hb G s _ (hr G s Q q))
theorem ei_i0 {g : Int → Int → V} {i j : Int} (ha : EI ta σ H (.int i)) (hb : EI tb σ H (.int j)) : EI (tOp (rI0 g) ta tb) σ H (g i j) := ei_op ha hb fun _ _ _ q => ⟨i, j, rfl, rfl, q⟩
theorem ei_ic {C : Int → Int → Prop} {g : Int → Int → V} {i j : Int} (ha : EI ta σ H (.int i)) (hb : EI tb σ H (.int j)) (hc : C i j) : EI (tOp (rI C g) ta tb) σ H (g i j) := ei_op ha hb fun _ _ _ q => ⟨i, j, rfl, rfl, hc, q⟩
theorem ea_nil : EA tNil σ H [] := fun _ _ _ q => q
theorem ea_cons {tr : TA} {vs : List V} (h : EI ta σ H x) (g : EA tr σ H vs) : EA (tCons ta tr) σ H (x :: vs) := fun G s _ q => h G s _ (g G s _ q)
theorem ei_cb {r : List V → Hp → VK → Prop} {tr : TA} {vs : List V} (ha : EA tr σ H vs) (hr : ∀ G, Same H G → ∀ Q : VK, Q z G → r vs G Q) : EI (tCB r tr) σ H z := fun G s Q q => ha G s _ (hr G s Q q)
/-- len of a list, list(..) of a list or a tuple, as they are read -/
def rLen (K : PySem.W.Frag) : List V → Hp → VK → Prop := fun xs H Q => ∃ p ys, xs = [.ref p] ∧ (SqL K H p ys ∨ SqT K H p ys) ∧ Q (.int ys.length) H
def rLst (K : PySem.W.Frag) : List V → Hp → VK → Prop := fun xs H Q => ∃ p ys, xs = [.ref p] ∧ (SqL K H p ys ∨ SqT K H p ys) ∧ ∀ l, H l = none → Q (.ref l) (upd H l (.lst ys))
def rTup (K : PySem.W.Frag) : List V → Hp → VK → Prop := fun xs H Q => ∃ p ys, xs = [.ref p] ∧ ((SqL K H p ys ∧ ∀ l, H l = none → Q (.ref l) (upd H l (.tup ys))) ∨ (SqT K H p ys ∧ Q (.ref p) H))
theorem callK_tuple {X : Cx} (h : X.K = K) : CallR X (.type "tuple") (rTup K) := by subst h; exact call_tuple_of
theorem callK_list {X : Cx} (h : X.K = K) : CallR X (.type "list") (rLst K) := by subst h; exact call_list_of
theorem opK_catA {X : Cx} (h : X.K = K) : OpR X (binaryOp .Add) (rCatA K) := by subst h; exact op_catA
theorem ixK_list {X : Cx} (h : X.K = K) : IxR X (rIxL K) := by subst h; exact ix_list
theorem ixK_tup {X : Cx} (h : X.K = K) : IxR X (rIxT K) := by subst h; exact ix_tup
theorem pe_fldK {X : Cx} {e : Expr} {f : Str} {pos : Pos} {ta : TE} (h : X.K = K) (he : PE X e ta) (hb : attributeBase e f X.env (eval e X.env) = eval e X.env) : PE X (.Attribute e f pos) (tFld K ta f) := by subst h; exact pe_fld he hb
theorem callK_len {X : Cx} (h : X.K = K) : CallR X (.builtin "len") (rLen K) := by subst h; exact call_len_seq
theorem ei_lenL {i : Nat} {p : Addr} (h : σ[i]? = some (some (.ref p))) (e : SqL K H p xs) : EI (tCB (rLen K) (tCons (tVar i) tNil)) σ H (.int (xs.length : Int)) := ei_cb (ea_cons (ei_var h) ea_nil) fun _ s _ q => ⟨p, xs, rfl, .inl (s.seq e), q⟩
theorem ei_lenT {i : Nat} {p : Addr} (h : σ[i]? = some (some (.ref p))) (e : SqT K H p xs) : EI (tCB (rLen K) (tCons (tVar i) tNil)) σ H (.int (xs.length : Int)) := ei_cb (ea_cons (ei_var h) ea_nil) fun _ s _ q => ⟨p, xs, rfl, .inr (sqt_same s e), q⟩
theorem ei_fld {i : Nat} {p C dx : Addr} {fs : List (Str × V)} {f : Str} (h : σ[i]? = some (some (.ref p))) (hp : H p = some (.ins C dx fs)) (c : Cls K C) (n : NoAttr K C f) (l : fs.lookup f = some v) : EI (tFld K (tVar i) f) σ H v := fun _ s _ q => ⟨.ref p, h, p, C, dx, fs, v, rfl, s _ _ hp, c, n, l, q⟩
theorem ei_din {td : TE} {d : Addr} {kvs : List (Key × V)} {k : Key} (hy : EI te σ H (kV k)) (hd : EI td σ H (.ref d)) (e : H d = some (.dK kvs)) : EI (tDIn te td) σ H (.bl (valV kvs k).isSome) := fun G s _ q => hy G s _ (hd G s _ ⟨d, _, rfl, DGet.k (s _ _ e), q⟩)
theorem ei_dnotin {td : TE} {d : Addr} {kvs : List (Key × V)} {k : Key} (hy : EI te σ H (kV k)) (hd : EI td σ H (.ref d)) (e : H d = some (.dK kvs)) : EI (tDNotIn te td) σ H (.bl (!(valV kvs k).isSome)) := fun G s _ q => hy G s _ (hd G s _ ⟨d, _, rfl, DGet.k (s _ _ e), q⟩)
theorem ei_dget {td : TE} {d : Addr} {kvs : List (Key × V)} {k : Key} (hy : EI te σ H (kV k)) (hd : EI td σ H (.ref d)) (e : H d = some (.dK kvs)) (hv : valV kvs k = some v) : EI (tDGet td te) σ H v := fun G s _ q => hd G s _ (hy G s _ ⟨d, v, rfl, by rw [← hv]; exact DGet.k (s _ _ e), q⟩)
theorem ei_ixL {p : Addr} {j : Int} (ha : EI ta σ H (.ref p)) (hi : EI tb σ H (.int j)) (e : SqL K H p xs) (h : atI xs j = some v) : EI (tOp (rIxL K) ta tb) σ H v := ei_op ha hi fun _ s _ q => ⟨p, xs, j, v, rfl, rfl, s.seq e, h, q⟩
theorem ei_ixT {p : Addr} {j : Int} (ha : EI ta σ H (.ref p)) (hi : EI tb σ H (.int j)) (e : SqT K H p xs) (h : atI xs j = some v) : EI (tOp (rIxT K) ta tb) σ H v := ei_op ha hi fun _ s _ q => ⟨p, xs, j, v, rfl, rfl, sqt_same s e, h, q⟩
theorem ei_eq (ha : EI ta σ H x) (hb : EI tb σ H y) (h : scal x y = true) : EI (tOp rEq ta tb) σ H (.bl (decide (x = y))) := ei_op ha hb fun _ _ _ q => ⟨h, q⟩
theorem ei_ne (ha : EI ta σ H x) (hb : EI tb σ H y) (h : scal x y = true) : EI (tOp rNe ta tb) σ H (.bl (!decide (x = y))) := ei_op ha hb fun _ _ _ q => ⟨h, q⟩
/-- a test by its value -/
theorem tt_use {b : Bool} {Q : Bool → Hp → Prop} (h : EI te σ H (.bl b)) (k : Q b H) : tTest te σ H Q := h H (Same.refl _) _ ⟨b, rfl, k⟩
theorem tb_use {b : Bool} {Q : Bool → Hp → Prop} (h : EI te σ H (.bl b)) (k : Q b H) : tB te σ H Q := h H (Same.refl _) _ ⟨b, rfl, k⟩
theorem el_var {i : Nat} {p : Addr} (h : σ[i]? = some (some (.ref p))) (e : H p = some (.lst xs)) : EL (tVar i) σ H xs := fun G s _ q => ⟨.ref p, h, q p G (Same.refl _) (s _ _ e)⟩
/-- a new list -/
def EN (te : TE) (σ : L2.St) (H : Hp) (xs : List V) : Prop := ∀ G, Same H G → ∀ Q : VK, (∀ p G', G p = none → Same G G' → G' p = some (.lst xs) → Q (.ref p) G') → te σ G Q
theorem EN.el (h : EN te σ H xs) : EL te σ H xs := fun G s Q q => h G s Q fun p G' _ => q p G'
theorem en_lst {tr : TA} {vs : List V} (ha : EA tr σ H vs) (hl : vs.length ≤ 90000) : EN (tLst tr) σ H vs := fun G s _ q => ha G s _ ⟨sz (by omega), fun p hp => q p _ hp (same_upd hp) upd_same⟩
theorem en_cat (ha : EL ta σ H xs) (hb : EL tb σ H ys) (hl : xs.length + ys.length ≤ 90000) : EN (tOp rCat ta tb) σ H (xs ++ ys) := fun G s _ q =>
  ha G s _ fun p G1 s1 e1 => hb G1 (s.trans s1) _ fun p2 G2 s2 e2 => ⟨p, p2, xs, ys, rfl, rfl, s2 _ _ e1, e2, sz (by omega), fun p3 h3 => q p3 _ ((s1.trans s2).free h3) ((s1.trans s2).trans (same_upd h3)) upd_same⟩
theorem en_rep {k : Int} (ha : EL ta σ H xs) (hb : EI tb σ H (.int k)) (h1 : -1000000 ≤ k) (h2 : k ≤ 1000000) (hl : xs.length * k.toNat ≤ 90000) : EN (tOp rRep ta tb) σ H (List.replicate k.toNat xs).flatten := fun G s _ q =>
  ha G s _ fun p G1 s1 e1 => hb G1 (s.trans s1) _ ⟨p, k, xs, rfl, rfl, e1, by omega, by omega, sz (by omega), fun p3 h3 => q p3 _ (s1.free h3) (s1.trans (same_upd h3)) upd_same⟩
theorem el_lst {tr : TA} {vs : List V} (ha : EA tr σ H vs) (hl : vs.length ≤ 90000) : EL (tLst tr) σ H vs := (en_lst ha hl).el
theorem el_cat (ha : EL ta σ H xs) (hb : EL tb σ H ys) (hl : xs.length + ys.length ≤ 90000) : EL (tOp rCat ta tb) σ H (xs ++ ys) := (en_cat ha hb hl).el
theorem el_rep {k : Int} (ha : EL ta σ H xs) (hb : EI tb σ H (.int k)) (h1 : -1000000 ≤ k) (h2 : k ≤ 1000000) (hl : xs.length * k.toNat ≤ 90000) : EL (tOp rRep ta tb) σ H (List.replicate k.toNat xs).flatten := (en_rep ha hb h1 h2 hl).el
theorem el_cb {r : List V → Hp → VK → Prop} {tr : TA} {vs : List V} (ha : EA tr σ H vs) (hr : ∀ G, Same H G → ∀ Q : VK, (∀ p G', Same G G' → G' p = some (.lst xs) → Q (.ref p) G') → r vs G Q) : EL (tCB r tr) σ H xs := fun G s Q q => ha G s _ (hr G s Q q)
theorem el_call {sp : Sp} {dvs : List V} {E : XK} {tr : TA} {vs : List V} (ha : EA tr σ H vs) (hr : ∀ G, Same H G → ∀ Q : VK, (∀ p G', Same G G' → G' p = some (.lst xs) → Q (.ref p) G') → sp (vs ++ dvs) G Q E) : EL (tCall sp dvs E tr) σ H xs := fun G s Q q => ha G s _ (hr G s Q q)
theorem el_listL {i : Nat} {p : Addr} (h : σ[i]? = some (some (.ref p))) (e : SqL K H p xs) : EL (tCB (rLst K) (tCons (tVar i) tNil)) σ H xs := el_cb (ea_cons (ei_var h) ea_nil) fun _ s _ q => ⟨p, xs, rfl, .inl (s.seq e), fun l hl => q l _ (same_upd hl) upd_same⟩
theorem el_listT {i : Nat} {p : Addr} (h : σ[i]? = some (some (.ref p))) (e : SqT K H p xs) : EL (tCB (rLst K) (tCons (tVar i) tNil)) σ H xs := el_cb (ea_cons (ei_var h) ea_nil) fun _ s _ q => ⟨p, xs, rfl, .inr (sqt_same s e), fun l hl => q l _ (same_upd hl) upd_same⟩
/-- x = an expression that gives a list -/
theorem EL.use {Q : VK} (h : EL te σ H xs) (k : ∀ p H', Same H H' → H' p = some (.lst xs) → Q (.ref p) H') : te σ H Q := h H (Same.refl _) Q k
theorem EN.use {Q : VK} (h : EN te σ H xs) (k : ∀ p H', H p = none → Same H H' → H' p = some (.lst xs) → Q (.ref p) H') : te σ H Q := h H (Same.refl _) Q k
theorem EI.use {Q : VK} (h : EI te σ H v) (k : Q v H) : te σ H Q := h H (Same.refl _) Q k
end
/-- defaults: what is bound where keywords give the rest -/
theorem kb_one {K : PySem.W.Frag} {x qual : Str} {params : Arguments} {body : List Stmt} {scope : Scope} {dvs : List V} {f : Addr} {fd : FuncData} {ps : List Str} (F : FunD K x qual params body scope dvs [] f fd) (n : Nat) (ks : List Str) (hd : dvs ≠ [])
    (h : ∀ (T : Addr) (kV doc pm : Value) (an : Option Addr) (cdv ct : Value) (us ws its : List Value), us.length = n → ws.length = ks.length → its.length = dvs.length →
      ∃ k, bindArgs (PySem.W.fnOf x qual params body scope (.ref T) kV doc pm an cdv ct) ⟨us, ks.zip ws⟩ = seqItems? (.ref T) >>= k ∧ k (some its.toArray) = pure (ps.zip (us ++ ws))) :
    KBn K fd ps n ks (fun us ws => us ++ ws) (fun vs zs => vs ++ zs) := by
  obtain ⟨oc, od, dV, kV, doc, pm, an, cdv, ct, osl, rfl, lk, hcd, hD, hK⟩ := F.ex
  rcases hD with ⟨e, _⟩ | ⟨_, T, o, its, m, rfl, lT, oT, rT⟩
  · exact absurd e hd
  · refine ⟨fun s us ws X h1 h2 => BindsTo.of_looks fun M => ?_, fun r1 r2 => r1.append r2⟩
    obtain ⟨k, e1, e2⟩ := h T kV doc pm an cdv ct us ws its h1 h2 rT.length.symm
    rw [e1]
    exact looks_items X lT oT (.of_pure e2)
theorem andV_use {ta tb : TE} {σ : L2.St} {H : Hp} {Q : VK} {x y : Bool} (h1 : EI ta σ H (.bl x)) (h2 : x = true → ∀ Q' : VK, (∀ H', Same H H' → Q' (.bl y) H') → tb σ H Q') (k : ∀ H', Same H H' → Q (.bl (x && y)) H') : tAndV ta tb σ H Q := by
  refine h1 H (Same.refl _) _ ⟨x, rfl, ?_⟩
  cases x with
  | true => exact (if_pos rfl).mpr (h2 rfl _ k)
  | false => exact (if_neg Bool.false_ne_true).mpr (k H (Same.refl _))
/-- what is locked and let go stands as it stood -/
theorem unlock {H H' : Hp} {d : Addr} {od : Obj} {u : HO} (e : H d = some u) (s : Same (upd H d (.frz od u)) H') : Same H (upd H' d u) := fun b o h => by
  by_cases hb : b = d
  · subst hb
    rw [upd_same, ← e]
    exact h
  · rw [upd_ne hb]
    exact s b o (by rw [upd_ne hb]; exact h)
theorem take_filter {α : Type} {l : List α} {i : Nat} {x : α} (f : α → Bool) (h : l[i]? = some x) : (l.take (i + 1)).filter f = (l.take i).filter f ++ if f x then [x] else [] := by
  rw [take_more h, List.filter_append]
  cases e : f x <;> simp [e]
/-- [e for k in d if t] over the keys of a dict, t and e change nothing -/
theorem lc_keys {td te : TE} {tt : TT} {s : Nat} {σ : L2.St} {H : Hp} {Q : VK} (d : Addr) (kvs : List (Key × V)) (f : Key → Bool) (g : Key → V) (e : H d = some (.dK kvs)) (hlen : kvs.length ≤ 90000)
    (htd : ∀ od, EI td σ (upd H d (.frz od (.dK kvs))) (.ref d))
    (hw : ∀ x, wipe ((wipe σ [s]).set s (some x)) [s] = wipe σ [s])
    (ht : ∀ (od : Obj) (i : Nat) (k : Key) (v : V) (G : Hp) (Q' : Bool → Hp → Prop), kvs[i]? = some (k, v) → Same (upd H d (.frz od (.dK kvs))) G → Q' (f k) G → tt ((wipe σ [s]).set s (some (kV k))) G Q')
    (he : ∀ (od : Obj) (i : Nat) (k : Key) (v : V) (G : Hp) (Q' : VK), kvs[i]? = some (k, v) → Same (upd H d (.frz od (.dK kvs))) G → Q' (g k) G → te ((wipe σ [s]).set s (some (kV k))) G Q')
    (k : ∀ D H', H D = none → Same H H' → H' D = some (.lst ((kvs.filter fun kv => f kv.1).map fun kv => g kv.1)) → Q (.ref D) H') : tLockE (tLc (iKeys td) (gName s) tt te [s]) σ H Q := by
  refine ⟨d, _, e, trivial, fun od => htd od _ (Same.refl _) _ ⟨d, od, rfl, .inl ⟨kvs, upd_same, fun D hD => ?_⟩⟩⟩
  have nD : D ≠ d := fun z => by rw [z, upd_same] at hD; cases hD
  have hD0 : H D = none := by rw [upd_ne nD] at hD; exact hD
  refine lc_it walk_keys (fun i G => Same (upd H d (.frz od (.dK kvs))) G ∧ G D = some (.lst (((kvs.take i).filter fun kv => f kv.1).map fun kv => g kv.1)))
    ⟨same_upd hD, upd_same⟩ (fun i G _ h => h.1 _ _ upd_same) (fun i x G G' hi hG hy => ?_) (fun G hG => ?_)
  · obtain ⟨rfl, key, v, hkv, rfl⟩ := hy
    have hfl : ((kvs.take i).filter fun kv => f kv.1).length ≤ 90000 := Nat.le_trans (List.length_filter_le _ _) (by rw [List.length_take]; omega)
    refine ⟨hw _, ht od i key v _ _ hkv hG.1 ?_⟩
    have hts := take_filter (fun kv : Key × V => f kv.1) hkv
    cases hf : f key with
    | true =>
      refine (if_pos rfl).mpr (he od i key v _ _ hkv hG.1 ⟨_, hG.2, szl (by rw [List.length_map]; omega), same_put hG.1 hD, ?_⟩)
      rw [upd_same, hts, List.map_append]
      simp only [hf, if_true]
      rfl
    | false =>
      refine (if_neg Bool.false_ne_true).mpr ⟨hG.1, ?_⟩
      rw [hts]
      simp only [hf, Bool.false_eq_true, if_false, List.append_nil]
      exact hG.2
  · rw [List.take_length] at hG
    refine ⟨hG.1 _ _ upd_same, k D _ hD0 (unlock e hG.1) ?_⟩
    rw [upd_ne nD]
    exact hG.2
theorem put_fresh {kvs : List (Key × V)} {k : Key} {v : V} (h : ∀ kv ∈ kvs, kv.1 ≠ k) : putK kvs k v = kvs ++ [(k, v)] := by
  unfold putK
  rw [if_neg]
  intro z
  obtain ⟨kv, hm, hk⟩ := List.any_eq_true.mp z
  exact h kv hm (of_decide_eq_true hk)
theorem nd_ne {α β : Type} {l : List (α × β)} {i : Nat} {x : α × β} (nd : (l.map (·.1)).Nodup) (h : l[i]? = some x) : ∀ y ∈ l.take i, y.1 ≠ x.1 := fun y hy z => by
  obtain ⟨j, hj, rfl⟩ := List.getElem_of_mem hy
  rw [List.length_take] at hj
  rw [List.getElem_take] at z
  obtain ⟨hi, rfl⟩ := List.getElem?_eq_some_iff.mp h
  have e1 : (l.map (·.1))[j]? = some l[i].1 := by rw [List.getElem?_map, List.getElem?_eq_getElem (by omega), ← z]; rfl
  have e2 : (l.map (·.1))[i]? = some l[i].1 := by rw [List.getElem?_map, List.getElem?_eq_getElem hi]; rfl
  have := nd_ix nd e1 e2
  omega
/-- {k: e for k in d if t} over the keys of a dict -/
theorem dc_keys {td tv : TE} {tt : TT} {s : Nat} {σ : L2.St} {H : Hp} {Q : VK} (d : Addr) (kvs : List (Key × V)) (f : Key → Bool) (g : Key × V → V) (e : H d = some (.dK kvs)) (hlen : kvs.length ≤ 90000) (nd : (kvs.map (·.1)).Nodup)
    (htd : ∀ od, EI td σ (upd H d (.frz od (.dK kvs))) (.ref d))
    (hw : ∀ x, wipe ((wipe σ [s]).set s (some x)) [s] = wipe σ [s])
    (ht : ∀ (od : Obj) (i : Nat) (k : Key) (v : V) (G : Hp) (Q' : Bool → Hp → Prop), kvs[i]? = some (k, v) → Same (upd H d (.frz od (.dK kvs))) G → Q' (f k) G → tt ((wipe σ [s]).set s (some (kV k))) G Q')
    (he : ∀ (od : Obj) (i : Nat) (k : Key) (v : V) (G : Hp) (Q' : VK), kvs[i]? = some (k, v) → f k = true → Same (upd H d (.frz od (.dK kvs))) G → Q' (g (k, v)) G → tv ((wipe σ [s]).set s (some (kV k))) G Q')
    (hn : ∀ i, (wipe σ [s]).length = i → s < i)
    (k : ∀ D H', H D = none → Same H H' → H' D = some (.dK ((kvs.filter fun kv => f kv.1).map fun kv => (kv.1, g kv))) → Q (.ref D) H') : tLockE (tDc (iKeys td) (gName s) tt (tVar s) tv [s]) σ H Q := by
  have hs : s < (wipe σ [s]).length := hn _ rfl
  refine ⟨d, _, e, trivial, fun od => htd od _ (Same.refl _) _ ⟨d, od, rfl, .inl ⟨kvs, upd_same, fun D hD => ?_⟩⟩⟩
  have nD : D ≠ d := fun z => by rw [z, upd_same] at hD; cases hD
  have hD0 : H D = none := by rw [upd_ne nD] at hD; exact hD
  let Pv : Nat → Hp → Prop := fun i G => Same (upd H d (.frz od (.dK kvs))) G ∧ G D = some (.dK (((kvs.take i).filter fun kv => f kv.1).map fun kv => (kv.1, g kv)))
  have step : ∀ i x G G', i < kvs.length → Pv i G → (G' = G ∧ ∃ k v, kvs[i]? = some (k, v) ∧ x = kV k) → gName s x (wipe σ [s]) G' fun σ2 H2 => wipe σ2 [s] = wipe σ [s] ∧ tt σ2 H2 fun b H3 =>
      if b = true then tVar s σ2 H3 fun y H4 => tv σ2 H4 fun z H5 => ∃ kvs' k', y = kV k' ∧ H5 D = some (.dK kvs') ∧ kvs'.length < sizeLine ∧ Pv (i + 1) (upd H5 D (.dK (putK kvs' k' z))) else Pv (i + 1) H3 := fun i x G G' hi hG hy => by
    obtain ⟨rfl, key, v, hkv, rfl⟩ := hy
    have hfl : ((kvs.take i).filter fun kv => f kv.1).length ≤ 90000 := Nat.le_trans (List.length_filter_le _ _) (by rw [List.length_take]; omega)
    refine ⟨hw _, ht od i key v _ _ hkv hG.1 ?_⟩
    have hts := take_filter (fun kv : Key × V => f kv.1) hkv
    cases hf : f key with
    | true =>
      refine (if_pos rfl).mpr ⟨kV key, by rw [List.getElem?_set_self hs], he od i key v _ _ hkv hf hG.1 ⟨_, key, rfl, hG.2, szl (by rw [List.length_map]; omega), same_put hG.1 hD, ?_⟩⟩
      rw [upd_same, hts, List.map_append, put_fresh]
      · simp only [hf, if_true]
        rfl
      · intro kv hm
        obtain ⟨y, hy, rfl⟩ := List.mem_map.mp hm
        exact nd_ne nd hkv y (List.mem_filter.mp hy).1
    | false =>
      refine (if_neg Bool.false_ne_true).mpr ⟨hG.1, ?_⟩
      rw [hts]
      simp only [hf, Bool.false_eq_true, if_false, List.append_nil]
      exact hG.2
  refine ⟨fun i m G => m = kvs.length - i ∧ i ≤ kvs.length ∧ Pv i G, ⟨kvs.length, by simp, Nat.zero_le _, same_upd hD, upd_same⟩, ?_⟩
  rintro i m G ⟨rfl, hi, hP⟩
  by_cases hlt : i < kvs.length
  · exact .inr ⟨⟨hP.1 _ _ upd_same, hlt⟩, Pv (i + 1), fun G' p' => ⟨kvs.length - (i + 1), by omega, rfl, hlt, p'⟩, fun x G' y => step i x G G' hlt hP y⟩
  · have ei : i = kvs.length := by omega
    subst ei
    obtain ⟨h1, h2⟩ := hP
    rw [List.take_length] at h2
    refine .inl ⟨⟨h1 _ _ upd_same, Nat.le_refl _⟩, h1 _ _ upd_same, k D _ hD0 (unlock e h1) ?_⟩
    rw [upd_ne nD]
    exact h2
/-! the same within a comprehension -/
section
variable {K : PySem.W.Frag} {X : Cx} {pos : Pos}
theorem pgK_tup {es : List Expr} {k : Nat} {t : TGs} {n : Nat} (hK : X.K = K) (hc : X.calm = true) (h : PGs X es t)
    (hn : (assignEach es X.env).length = n := by rfl) (hst : (assignEach es X.env).findIdx? (·.1) = none := by rfl) : PG X (.Tuple es k pos) (gTup K n t) := by subst hK; exact pg_tup hc h hn hst
theorem opK_in (h : X.K = K) : OpR X (compareOp .In) (rIn K false) := by subst h; exact op_in_seq
theorem opK_notIn (h : X.K = K) : OpR X (compareOp .NotIn) (rIn K true) := by subst h; exact op_notIn_seq
theorem opK_eqD (h : X.K = K) (hu : X.A.units + 64 < cLine) : OpR X (compareOp .Eq) (rEqD K) := by subst h; exact op_eqD hu
theorem opK_neD (h : X.K = K) (hu : X.A.units + 64 < cLine) : OpR X (compareOp .NotEq) (rNeD K) := by subst h; exact op_neD hu
theorem callK_isi (h : X.K = K) : CallR X (.builtin "isinstance") (rIsi K) := by subst h; exact call_isi
theorem slK_tup (h : X.K = K) : SlR X (rSlT K) := by subst h; exact sl_tup
end
end My
local macro_rules | `(tactic| walk_at "go") => `(tactic| try dsimp only [L2.gName, L2.tSeq, L2.tAsg, L2.tNext, L2.tDrop])
namespace My
open PySem PySem.Spec PyProof.Rows L2
def topS (i : Nat) : Stmt := PySem.Challenge.pw_majordomo_k69_tasks_of_a_service.main.body.getD i (.Pass ⟨0, 0, 0, 0⟩)
abbrev s_is_placed : Stmt := (topS 4)
theorem sc_is_placed : FnScope ["value"] ["value"] (defScope s_is_placed) := ⟨rfl, rfl, rfl, by decide +kernel, rfl, by decide +kernel, by decide +kernel⟩
abbrev s_same_service : Stmt := (topS 6)
theorem sc_same_service : FnScope ["entries", "node", "service_born", "tasks", "kind", "_", "value", "task"] ["entries", "node", "service_born"] (defScope s_same_service) := ⟨rfl, rfl, rfl, by decide +kernel, rfl, by decide +kernel, by decide +kernel⟩
abbrev s__law_number : Stmt := (topS 8)
theorem sc__law_number : FnScope ["script", "k", "cell"] ["script", "k"] (defScope s__law_number) := ⟨rfl, rfl, rfl, by decide +kernel, rfl, by decide +kernel, by decide +kernel⟩
abbrev s__law_digits : Stmt := (topS 9)
theorem sc__law_digits : FnScope ["script", "k", "sizes", "number", "digits", "size"] ["script", "k", "sizes"] (defScope s__law_digits) := ⟨rfl, rfl, rfl, by decide +kernel, rfl, by decide +kernel, by decide +kernel⟩
abbrev s__law_entry : Stmt := (topS 10)
theorem sc__law_entry : FnScope ["script", "k", "states", "nodes", "born", "state", "stop", "node", "kind", "value"] ["script", "k"] (defScope s__law_entry) := ⟨rfl, rfl, rfl, by decide +kernel, rfl, by decide +kernel, by decide +kernel⟩
abbrev s_law : Stmt := (topS 11)
theorem sc_law : FnScope ["script", "size", "entries", "node", "born", "due", "kind", "name", "made", "rev", "value", "actual", "k"] ["script"] (defScope s_law) := ⟨rfl, rfl, rfl, by decide +kernel, rfl, by decide +kernel, by decide +kernel⟩

structure TX (K : PySem.W.Frag) (mg : Str → Option Value) where
  a_is_placed : Addr
  d_is_placed : FuncData
  F_is_placed : Fun K "is_placed" "is_placed" s_is_placed a_is_placed d_is_placed
  b_is_placed : Binds K d_is_placed ["value"] []
  g_is_placed : mg "is_placed" = some (.ref a_is_placed)
  a_same_service : Addr
  d_same_service : FuncData
  F_same_service : Fun K "same_service" "same_service" s_same_service a_same_service d_same_service
  b_same_service : Binds K d_same_service ["entries", "node", "service_born"] []
  g_same_service : mg "same_service" = some (.ref a_same_service)
  a__law_number : Addr
  d__law_number : FuncData
  F__law_number : Fun K "_law_number" "_law_number" s__law_number a__law_number d__law_number
  b__law_number : Binds K d__law_number ["script", "k"] []
  g__law_number : mg "_law_number" = some (.ref a__law_number)
  a__law_digits : Addr
  d__law_digits : FuncData
  F__law_digits : Fun K "_law_digits" "_law_digits" s__law_digits a__law_digits d__law_digits
  b__law_digits : Binds K d__law_digits ["script", "k", "sizes"] []
  g__law_digits : mg "_law_digits" = some (.ref a__law_digits)
  a__law_entry : Addr
  d__law_entry : FuncData
  F__law_entry : Fun K "_law_entry" "_law_entry" s__law_entry a__law_entry d__law_entry
  b__law_entry : Binds K d__law_entry ["script", "k"] []
  g__law_entry : mg "_law_entry" = some (.ref a__law_entry)
  a_law : Addr
  d_law : FuncData
  F_law : Fun K "law" "law" s_law a_law d_law
  b_law : Binds K d_law ["script"] []
  g_law : mg "law" = some (.ref a_law)
  t_SERVICE_BORN : Tok
  c_SERVICE_BORN : mg "SERVICE_BORN" = some (.int 0 t_SERVICE_BORN)
  t_STATE : Tok
  c_STATE : mg "STATE" = some (.int 3 t_STATE)
  t_NODE : Tok
  c_NODE : mg "NODE" = some (.int 5 t_NODE)
  n_len : mg "len" = none
  n_abs : mg "abs" = none
  n_int : mg "int" = none
  n_str : mg "str" = none
  n_range : mg "range" = none
  n_isinstance : mg "isinstance" = none
  n_bool : mg "bool" = none

/-- a statement that changes nothing, then the rest -/
theorem cut_same {t u : TS} {D : L2.Ends} {σ : L2.St} {H : Hp} (h1 : t { D with nx := fun σ' G => σ' = σ ∧ G = H } σ H) (h2 : u D σ H) : C8.tCut t u D σ H := ⟨_, h1, fun _ _ ⟨a, b⟩ => by rw [a, b]; exact h2⟩
/-! comprehensions whose elements are data -/
/-- what stood in G away from D stands in G'' -/
def Off (D : Addr) (G G'' : Hp) : Prop := ∀ b o, b ≠ D → G b = some o → G'' b = some o
theorem Off.refl (D : Addr) (G : Hp) : Off D G G := fun _ _ _ h => h
theorem Off.pre {D : Addr} {G G' G'' : Hp} (s : Same G G') (h : Off D G' G'') : Off D G G'' := fun b o n e => h b o n (s b o e)
theorem Off.put {D : Addr} {G G'' : Hp} {o : HO} (h : Off D (upd G D o) G'') : Off D G G'' := fun b u n e => h b u n (by rw [upd_ne n]; exact e)
theorem lcg {K : PySem.W.Frag} {J : It} {n : Nat} {Gd : Hp → Prop} {Y : Nat → Hp → V → Hp → Prop} (w : Walk J n Gd Y) {g : TG} {tt : TT} {te : TE} {vs : List Nat} {σ : L2.St} {H : Hp} {D : Addr} {Qd : Hp → Prop}
    (P : Nat → List PyData → Prop) (h0 : P 0 []) (hD : H D = none) (hG : ∀ G, Same H G → Gd G) (hn : n ≤ 90000)
    (hs : ∀ i x G G1 ds, i < n → Same H G → (∃ l, G D = some (.lst l)) → P i ds → Y i G x G1 → ∀ J : Option V → Hp → Prop, (∀ G', Same G G' → P (i + 1) ds → J none G') →
      (∀ y d G', Same G G' → (∀ G'', Same H G'' → Off D G' G'' → Dp K G'' y d) → P (i + 1) (ds ++ [d]) → J (some y) G') →
      g x (wipe σ vs) G1 fun σ2 H2 => wipe σ2 vs = wipe σ vs ∧ tt σ2 H2 fun b H3 => if b = true then te σ2 H3 fun y H4 => J (some y) H4 else J none H3)
    (k : ∀ H' ys ds, Same H H' → H' D = some (.lst ys) → DpAll K H' ys ds → P n ds → Qd H') :
    ∃ W : Nat → Nat → Hp → Prop, (∃ m, W 0 m (upd H D (.lst []))) ∧ ∀ i m H, W i m H →
      (J.stop i H ∧ Qd H) ∨ (J.go i H ∧ ∃ Nx : Hp → Prop, (∀ H', Nx H' → ∃ m', m' < m ∧ W (i + 1) m' H') ∧ ∀ x H', J.yld i H x H' → g x (wipe σ vs) H' fun σ2 H2 => wipe σ2 vs = wipe σ vs ∧ tt σ2 H2 fun b H3 =>
        if b = true then te σ2 H3 fun y H4 => ∃ acc, H4 D = some (.lst acc) ∧ acc.length < sizeLine ∧ Nx (upd H4 D (.lst (acc ++ [y]))) else Nx H3) := by
  refine lc_it w (fun i G => ∃ ys ds, Same H G ∧ G D = some (.lst ys) ∧ (∀ G'', Same H G'' → Off D G G'' → DpAll K G'' ys ds) ∧ P i ds ∧ ds.length ≤ i) ⟨[], [], same_upd hD, upd_same, fun _ _ _ => .nil, h0, Nat.le_refl _⟩ (fun i G _ h => hG G h.choose_spec.choose_spec.1) ?_ ?_
  · rintro i x G G1 hi ⟨ys, ds, s1, e1, h1, p1, l1⟩ hy
    have hl : ys.length = ds.length := dpa_len (h1 G s1 (Off.refl _ _))
    refine hs i x G G1 ds hi s1 ⟨ys, e1⟩ p1 hy (fun o G' => match o with
      | some y => ∃ acc, G' D = some (.lst acc) ∧ acc.length < sizeLine ∧ ∃ ys ds, Same H (upd G' D (.lst (acc ++ [y]))) ∧ (upd G' D (.lst (acc ++ [y]))) D = some (.lst ys) ∧ (∀ G'', Same H G'' → Off D (upd G' D (.lst (acc ++ [y]))) G'' → DpAll K G'' ys ds) ∧ P (i + 1) ds ∧ ds.length ≤ i + 1
      | none => ∃ ys ds, Same H G' ∧ G' D = some (.lst ys) ∧ (∀ G'', Same H G'' → Off D G' G'' → DpAll K G'' ys ds) ∧ P (i + 1) ds ∧ ds.length ≤ i + 1) ?_ ?_
    · exact fun G' s p => ⟨ys, ds, s1.trans s, s _ _ e1, fun G'' s2 o => h1 G'' s2 (Off.pre s o), p, by omega⟩
    · exact fun y d G' s hy p => ⟨ys, s _ _ e1, szl (by omega), ys ++ [y], ds ++ [d], same_put (s1.trans s) hD, upd_same, fun G'' s2 o => dpa_app (h1 G'' s2 (Off.pre s o.put)) (.cons (hy G'' s2 o.put) .nil), p, by rw [List.length_append]; simp only [List.length_cons, List.length_nil]; omega⟩
  · rintro G ⟨ys, ds, s1, e1, h1, p1, _⟩
    exact k G ys ds s1 e1 (h1 G s1 (Off.refl _ _)) p1
/-- over a list of data, each element by a function -/
theorem lcd {α : Type} {K : PySem.W.Frag} {g : TG} {tt : TT} {te : TE} {vs : List Nat} {σ : L2.St} {H : Hp} {D a : Addr} {Qd : Hp → Prop} {xs : List V} (es : List α) (pd : α → PyData) (f : α → Option PyData)
    (hD : H D = none) (hL : SqL K H a xs) (hx : DpAll K H xs (es.map pd)) (hn : es.length ≤ 90000)
    (hs : ∀ x e G, e ∈ es → Same H G → (∃ l, G D = some (.lst l)) → Dp K H x (pd e) → ∀ J : Option V → Hp → Prop, (∀ G', Same G G' → f e = none → J none G') →
      (∀ y d G', Same G G' → (∀ G'', Same H G'' → Off D G' G'' → Dp K G'' y d) → f e = some d → J (some y) G') →
      g x (wipe σ vs) G fun σ2 H2 => wipe σ2 vs = wipe σ vs ∧ tt σ2 H2 fun b H3 => if b = true then te σ2 H3 fun y H4 => J (some y) H4 else J none H3)
    (k : ∀ H' ys, Same H H' → H' D = some (.lst ys) → DpAll K H' ys (es.filterMap f) → Qd H') :
    ∃ W : Nat → Nat → Hp → Prop, (∃ m, W 0 m (upd H D (.lst []))) ∧ ∀ i m H, W i m H →
      ((Itl K a).stop i H ∧ Qd H) ∨ ((Itl K a).go i H ∧ ∃ Nx : Hp → Prop, (∀ H', Nx H' → ∃ m', m' < m ∧ W (i + 1) m' H') ∧ ∀ x H', (Itl K a).yld i H x H' → g x (wipe σ vs) H' fun σ2 H2 => wipe σ2 vs = wipe σ vs ∧ tt σ2 H2 fun b H3 =>
        if b = true then te σ2 H3 fun y H4 => ∃ acc, H4 D = some (.lst acc) ∧ acc.length < sizeLine ∧ Nx (upd H4 D (.lst (acc ++ [y]))) else Nx H3) := by
  have hl : xs.length = es.length := by have := dpa_len hx; rwa [List.length_map] at this
  refine lcg (K := K) (walk_list (K := K) (a := a) (xs := xs)) (fun i ds => ds = (es.take i).filterMap f) rfl hD (fun G s => s.seq hL) (by omega) ?_ ?_
  · rintro i x G G1 ds hi s1 hl1 rfl ⟨rfl, hxi⟩ J j1 j2
    have hi2 : i < es.length := by omega
    have he : es[i]? = some es[i] := List.getElem?_eq_getElem hi2
    obtain ⟨d, hd, hdp⟩ := dpa_at hx hxi
    rw [List.getElem?_map, he] at hd
    cases hd
    have ht : (es.take (i + 1)).filterMap f = (es.take i).filterMap f ++ (f es[i]).toList := by
      rw [take_more he, List.filterMap_append]
      cases e : f es[i] <;> simp [e]
    refine hs x es[i] G1 (List.getElem_mem hi2) s1 hl1 hdp J (fun G' s e => j1 G' s ?_) (fun y d G' s hy e => j2 y d G' s hy ?_)
    · rw [ht, e]; simp
    · rw [ht, e]; rfl
  · rintro H' ys ds s1 e1 h1 rfl
    rw [hl, List.take_length] at h1
    exact k H' ys s1 e1 h1
/-! data taken apart -/
theorem dp_tup {K : PySem.W.Frag} {H : Hp} {x : V} {ds : List PyData} (h : Dp K H x (.tuple ds)) : ∃ p vs, x = .ref p ∧ SqT K H p vs ∧ DpAll K H vs ds := by
  cases h with
  | tup h a => exact ⟨_, _, rfl, h, a⟩
theorem dp_str {K : PySem.W.Frag} {H : Hp} {x : V} {s : Str} (h : Dp K H x (.str s)) : x = .str s := by cases h; rfl
theorem dp_int {K : PySem.W.Frag} {H : Hp} {x : V} {i : Int} (h : Dp K H x (.int i)) : x = .int i := by cases h; rfl
theorem dp_bl {K : PySem.W.Frag} {H : Hp} {x : V} {i : Bool} (h : Dp K H x (.bool i)) : x = .bl i := by cases h; rfl
theorem dpa_nil {K : PySem.W.Frag} {H : Hp} {vs : List V} (h : DpAll K H vs []) : vs = [] := by cases h; rfl
theorem dpa_cons {K : PySem.W.Frag} {H : Hp} {vs : List V} {d : PyData} {ds : List PyData} (h : DpAll K H vs (d :: ds)) : ∃ v ws, vs = v :: ws ∧ Dp K H v d ∧ DpAll K H ws ds := by
  cases h with
  | cons h a => exact ⟨_, _, rfl, h, a⟩
theorem dpa_str {K : PySem.W.Frag} {H : Hp} {vs : List V} {s : Str} {ds : List PyData} (h : DpAll K H vs (.str s :: ds)) : ∃ ws, vs = .str s :: ws ∧ DpAll K H ws ds := by
  obtain ⟨v, ws, rfl, h1, h2⟩ := dpa_cons h
  exact ⟨ws, by rw [dp_str h1], h2⟩
theorem dpa_int {K : PySem.W.Frag} {H : Hp} {vs : List V} {s : Int} {ds : List PyData} (h : DpAll K H vs (.int s :: ds)) : ∃ ws, vs = .int s :: ws ∧ DpAll K H ws ds := by
  obtain ⟨v, ws, rfl, h1, h2⟩ := dpa_cons h
  exact ⟨ws, by rw [dp_int h1], h2⟩
theorem dpa_bl {K : PySem.W.Frag} {H : Hp} {vs : List V} {s : Bool} {ds : List PyData} (h : DpAll K H vs (.bool s :: ds)) : ∃ ws, vs = .bl s :: ws ∧ DpAll K H ws ds := by
  obtain ⟨v, ws, rfl, h1, h2⟩ := dpa_cons h
  exact ⟨ws, by rw [dp_bl h1], h2⟩
theorem fm_if {α β : Type} (p : α → Bool) (g : α → β) : ∀ l : List α, l.filterMap (fun e => if p e = true then some (g e) else none) = (l.filter p).map g
  | [] => rfl
  | a :: l => by
    have ih := fm_if p g l
    cases h : p a <;> simp [h, ih]
theorem dp_t1 {K : PySem.W.Frag} {H : Hp} {x : V} {d0 : PyData} (h : Dp K H x (.tuple [d0])) : ∃ p v0, x = .ref p ∧ SqT K H p [v0] ∧ Dp K H v0 d0 := by
  obtain ⟨p, vs, rfl, ht, h0⟩ := dp_tup h
  cases h0 with | cons g0 h1 =>
  cases h1
  exact ⟨p, _, rfl, ht, g0⟩
theorem dp_t2 {K : PySem.W.Frag} {H : Hp} {x : V} {d0 d1 : PyData} (h : Dp K H x (.tuple [d0, d1])) : ∃ p v0 v1, x = .ref p ∧ SqT K H p [v0, v1] ∧ Dp K H v0 d0 ∧ Dp K H v1 d1 := by
  obtain ⟨p, vs, rfl, ht, h0⟩ := dp_tup h
  cases h0 with | cons g0 h1 =>
  cases h1 with | cons g1 h2 =>
  cases h2
  exact ⟨p, _, _, rfl, ht, g0, g1⟩
theorem dp_t3 {K : PySem.W.Frag} {H : Hp} {x : V} {d0 d1 d2 : PyData} (h : Dp K H x (.tuple [d0, d1, d2])) : ∃ p v0 v1 v2, x = .ref p ∧ SqT K H p [v0, v1, v2] ∧ Dp K H v0 d0 ∧ Dp K H v1 d1 ∧ Dp K H v2 d2 := by
  obtain ⟨p, vs, rfl, ht, h0⟩ := dp_tup h
  cases h0 with | cons g0 h1 =>
  cases h1 with | cons g1 h2 =>
  cases h2 with | cons g2 h3 =>
  cases h3
  exact ⟨p, _, _, _, rfl, ht, g0, g1, g2⟩
theorem dp_t4 {K : PySem.W.Frag} {H : Hp} {x : V} {d0 d1 d2 d3 : PyData} (h : Dp K H x (.tuple [d0, d1, d2, d3])) : ∃ p v0 v1 v2 v3, x = .ref p ∧ SqT K H p [v0, v1, v2, v3] ∧ Dp K H v0 d0 ∧ Dp K H v1 d1 ∧ Dp K H v2 d2 ∧ Dp K H v3 d3 := by
  obtain ⟨p, vs, rfl, ht, h0⟩ := dp_tup h
  cases h0 with | cons g0 h1 =>
  cases h1 with | cons g1 h2 =>
  cases h2 with | cons g2 h3 =>
  cases h3 with | cons g3 h4 =>
  cases h4
  exact ⟨p, _, _, _, _, rfl, ht, g0, g1, g2, g3⟩
theorem dp_t5 {K : PySem.W.Frag} {H : Hp} {x : V} {d0 d1 d2 d3 d4 : PyData} (h : Dp K H x (.tuple [d0, d1, d2, d3, d4])) : ∃ p v0 v1 v2 v3 v4, x = .ref p ∧ SqT K H p [v0, v1, v2, v3, v4] ∧ Dp K H v0 d0 ∧ Dp K H v1 d1 ∧ Dp K H v2 d2 ∧ Dp K H v3 d3 ∧ Dp K H v4 d4 := by
  obtain ⟨p, vs, rfl, ht, h0⟩ := dp_tup h
  cases h0 with | cons g0 h1 =>
  cases h1 with | cons g1 h2 =>
  cases h2 with | cons g2 h3 =>
  cases h3 with | cons g3 h4 =>
  cases h4 with | cons g4 h5 =>
  cases h5
  exact ⟨p, _, _, _, _, _, rfl, ht, g0, g1, g2, g3, g4⟩
theorem dp_t6 {K : PySem.W.Frag} {H : Hp} {x : V} {d0 d1 d2 d3 d4 d5 : PyData} (h : Dp K H x (.tuple [d0, d1, d2, d3, d4, d5])) : ∃ p v0 v1 v2 v3 v4 v5, x = .ref p ∧ SqT K H p [v0, v1, v2, v3, v4, v5] ∧ Dp K H v0 d0 ∧ Dp K H v1 d1 ∧ Dp K H v2 d2 ∧ Dp K H v3 d3 ∧ Dp K H v4 d4 ∧ Dp K H v5 d5 := by
  obtain ⟨p, vs, rfl, ht, h0⟩ := dp_tup h
  cases h0 with | cons g0 h1 =>
  cases h1 with | cons g1 h2 =>
  cases h2 with | cons g2 h3 =>
  cases h3 with | cons g3 h4 =>
  cases h4 with | cons g4 h5 =>
  cases h5 with | cons g5 h6 =>
  cases h6
  exact ⟨p, _, _, _, _, _, _, rfl, ht, g0, g1, g2, g3, g4, g5⟩
theorem dp_t7 {K : PySem.W.Frag} {H : Hp} {x : V} {d0 d1 d2 d3 d4 d5 d6 : PyData} (h : Dp K H x (.tuple [d0, d1, d2, d3, d4, d5, d6])) : ∃ p v0 v1 v2 v3 v4 v5 v6, x = .ref p ∧ SqT K H p [v0, v1, v2, v3, v4, v5, v6] ∧ Dp K H v0 d0 ∧ Dp K H v1 d1 ∧ Dp K H v2 d2 ∧ Dp K H v3 d3 ∧ Dp K H v4 d4 ∧ Dp K H v5 d5 ∧ Dp K H v6 d6 := by
  obtain ⟨p, vs, rfl, ht, h0⟩ := dp_tup h
  cases h0 with | cons g0 h1 =>
  cases h1 with | cons g1 h2 =>
  cases h2 with | cons g2 h3 =>
  cases h3 with | cons g3 h4 =>
  cases h4 with | cons g4 h5 =>
  cases h5 with | cons g5 h6 =>
  cases h6 with | cons g6 h7 =>
  cases h7
  exact ⟨p, _, _, _, _, _, _, _, rfl, ht, g0, g1, g2, g3, g4, g5, g6⟩
theorem dp_t8 {K : PySem.W.Frag} {H : Hp} {x : V} {d0 d1 d2 d3 d4 d5 d6 d7 : PyData} (h : Dp K H x (.tuple [d0, d1, d2, d3, d4, d5, d6, d7])) : ∃ p v0 v1 v2 v3 v4 v5 v6 v7, x = .ref p ∧ SqT K H p [v0, v1, v2, v3, v4, v5, v6, v7] ∧ Dp K H v0 d0 ∧ Dp K H v1 d1 ∧ Dp K H v2 d2 ∧ Dp K H v3 d3 ∧ Dp K H v4 d4 ∧ Dp K H v5 d5 ∧ Dp K H v6 d6 ∧ Dp K H v7 d7 := by
  obtain ⟨p, vs, rfl, ht, h0⟩ := dp_tup h
  cases h0 with | cons g0 h1 =>
  cases h1 with | cons g1 h2 =>
  cases h2 with | cons g2 h3 =>
  cases h3 with | cons g3 h4 =>
  cases h4 with | cons g4 h5 =>
  cases h5 with | cons g5 h6 =>
  cases h6 with | cons g6 h7 =>
  cases h7 with | cons g7 h8 =>
  cases h8
  exact ⟨p, _, _, _, _, _, _, _, _, rfl, ht, g0, g1, g2, g3, g4, g5, g6, g7⟩
theorem dp_t9 {K : PySem.W.Frag} {H : Hp} {x : V} {d0 d1 d2 d3 d4 d5 d6 d7 d8 : PyData} (h : Dp K H x (.tuple [d0, d1, d2, d3, d4, d5, d6, d7, d8])) : ∃ p v0 v1 v2 v3 v4 v5 v6 v7 v8, x = .ref p ∧ SqT K H p [v0, v1, v2, v3, v4, v5, v6, v7, v8] ∧ Dp K H v0 d0 ∧ Dp K H v1 d1 ∧ Dp K H v2 d2 ∧ Dp K H v3 d3 ∧ Dp K H v4 d4 ∧ Dp K H v5 d5 ∧ Dp K H v6 d6 ∧ Dp K H v7 d7 ∧ Dp K H v8 d8 := by
  obtain ⟨p, vs, rfl, ht, h0⟩ := dp_tup h
  cases h0 with | cons g0 h1 =>
  cases h1 with | cons g1 h2 =>
  cases h2 with | cons g2 h3 =>
  cases h3 with | cons g3 h4 =>
  cases h4 with | cons g4 h5 =>
  cases h5 with | cons g5 h6 =>
  cases h6 with | cons g6 h7 =>
  cases h7 with | cons g7 h8 =>
  cases h8 with | cons g8 h9 =>
  cases h9
  exact ⟨p, _, _, _, _, _, _, _, _, _, rfl, ht, g0, g1, g2, g3, g4, g5, g6, g7, g8⟩
theorem tf_no {α : Type} {l : List α} {i : Nat} {x : α} {f : α → Bool} (h : l[i]? = some x) (hf : f x = false) : (l.take (i + 1)).filter f = (l.take i).filter f := by
  rw [take_filter f h, hf]
  simp
theorem tf_yes {α : Type} {l : List α} {i : Nat} {x : α} {f : α → Bool} (h : l[i]? = some x) (hf : f x = true) : ((l.take (i + 1)).filter f).length = ((l.take i).filter f).length + 1 := by
  rw [take_filter f h, hf]
  simp
/-! the digits of a script's cell -/
def Digs : List Int → List Int → Prop
  | [], [] => True
  | d :: ds, z :: zs => (0 ≤ d ∧ d < z) ∧ Digs ds zs
  | _, _ => False
theorem digs_snoc : ∀ {ds zs : List Int} {d z : Int}, Digs ds zs → 0 ≤ d → d < z → Digs (ds ++ [d]) (zs ++ [z])
  | [], [], _, _, _, h0, h1 => ⟨⟨h0, h1⟩, trivial⟩
  | _ :: _, _ :: _, _, _, h, h0, h1 => ⟨h.1, digs_snoc h.2 h0 h1⟩
theorem digs_len : ∀ {ds zs : List Int}, Digs ds zs → ds.length = zs.length
  | [], [], _ => rfl
  | _ :: ds, _ :: zs, h => by rw [List.length_cons, List.length_cons, digs_len h.2]
theorem digs1 {ds : List Int} {z : Int} (h : Digs ds [z]) : ∃ d, ds = [d] ∧ 0 ≤ d ∧ d < z := by
  match ds, h with
  | [d], h => exact ⟨d, rfl, h.1.1, h.1.2⟩
  | _ :: _ :: _, h => exact h.2.elim
theorem digs2 {ds : List Int} {z y : Int} (h : Digs ds [z, y]) : ∃ d e, ds = [d, e] ∧ (0 ≤ d ∧ d < z) ∧ (0 ≤ e ∧ e < y) := by
  match ds, h with
  | d :: es, h => obtain ⟨e, rfl, h1⟩ := digs1 h.2; exact ⟨d, e, rfl, h.1, h1⟩
theorem digs3 {ds : List Int} {z y x : Int} (h : Digs ds [z, y, x]) : ∃ d e f, ds = [d, e, f] ∧ (0 ≤ d ∧ d < z) ∧ (0 ≤ e ∧ e < y) ∧ (0 ≤ f ∧ f < x) := by
  match ds, h with
  | d :: es, h => obtain ⟨e, f, rfl, h1⟩ := digs2 h.2; exact ⟨d, e, f, rfl, h.1, h1⟩
theorem digs4 {ds : List Int} {z y x w : Int} (h : Digs ds [z, y, x, w]) : ∃ d e f g, ds = [d, e, f, g] ∧ (0 ≤ d ∧ d < z) ∧ (0 ≤ e ∧ e < y) ∧ (0 ≤ f ∧ f < x) ∧ (0 ≤ g ∧ g < w) := by
  match ds, h with
  | d :: es, h => obtain ⟨e, f, g, rfl, h1⟩ := digs3 h.2; exact ⟨d, e, f, g, rfl, h.1, h1⟩
theorem digs5 {ds : List Int} {z y x w v : Int} (h : Digs ds [z, y, x, w, v]) : ∃ d e f g k, ds = [d, e, f, g, k] ∧ (0 ≤ d ∧ d < z) ∧ (0 ≤ e ∧ e < y) ∧ (0 ≤ f ∧ f < x) ∧ (0 ≤ g ∧ g < w) ∧ (0 ≤ k ∧ k < v) := by
  match ds, h with
  | d :: es, h => obtain ⟨e, f, g, k, rfl, h1⟩ := digs4 h.2; exact ⟨d, e, f, g, k, rfl, h.1, h1⟩
theorem digs6 {ds : List Int} {z y x w v u : Int} (h : Digs ds [z, y, x, w, v, u]) : ∃ d e f g k l, ds = [d, e, f, g, k, l] ∧ (0 ≤ d ∧ d < z) ∧ (0 ≤ e ∧ e < y) ∧ (0 ≤ f ∧ f < x) ∧ (0 ≤ g ∧ g < w) ∧ (0 ≤ k ∧ k < v) ∧ (0 ≤ l ∧ l < u) := by
  match ds, h with
  | d :: es, h => obtain ⟨e, f, g, k, l, rfl, h1⟩ := digs5 h.2; exact ⟨d, e, f, g, k, l, rfl, h.1, h1⟩
theorem digs8 {ds : List Int} {z y x w v u t s : Int} (h : Digs ds [z, y, x, w, v, u, t, s]) : ∃ d e f g k l m n, ds = [d, e, f, g, k, l, m, n] ∧ (0 ≤ d ∧ d < z) ∧ (0 ≤ e ∧ e < y) ∧ (0 ≤ f ∧ f < x) ∧ (0 ≤ g ∧ g < w) ∧ (0 ≤ k ∧ k < v) ∧ (0 ≤ l ∧ l < u) ∧ (0 ≤ m ∧ m < t) ∧ (0 ≤ n ∧ n < s) := by
  match ds, h with
  | d :: e :: es, h => obtain ⟨f, g, k, l, m, n, rfl, h1⟩ := digs6 h.2.2; exact ⟨d, e, f, g, k, l, m, n, rfl, h.1, h.2.1, h1⟩
def sp_num (K : PySem.W.Frag) : Sp := fun vs H Q _ => ∃ (a : Addr) (ns : List Int) (k : Int), vs = [.ref a, .int k] ∧ SqL K H a (ns.map V.int) ∧ (0 ≤ k ∧ k ≤ 10000) ∧ ∀ n : Int, 0 ≤ n → Q (.int n) H
def sp_digits (K : PySem.W.Frag) : Sp := fun vs H Q _ => ∃ (a b : Addr) (ns zs : List Int) (k : Int), vs = [.ref a, .int k, .ref b] ∧ SqL K H a (ns.map V.int) ∧ (0 ≤ k ∧ k ≤ 10000) ∧ SqL K H b (zs.map V.int) ∧ zs.length ≤ 1000 ∧ (∀ z ∈ zs, 0 < z ∧ z < 1073741824) ∧
  ∀ (p : Addr) (H' : Hp) (ds : List Int), H p = none → Same H H' → H' p = some (.lst (ds.map V.int)) → Digs ds zs → Q (.ref p) H'
section
variable {P : Program} {w : World} {K : PySem.W.Frag} {mg : Str → Option Value} {base : Heap}
theorem ok__law_number (T : TX K mg) : FnOk P w K mg base CX0 1 T.a__law_number T.d__law_number ["script", "k"] (sp_num K) := by
  refine T.F__law_number.ok sc__law_number (fun vs H Q E h => ?_) (fun cdv A outer s H vs Q E hr h => ?_)
  · obtain ⟨a, ns, k, rfl, _⟩ := h
    rfl
  · obtain ⟨a, ns, k, rfl, hS, hk, q⟩ := h
    refine ⟨_, (pss_cons (ps_set (i := 2) sc__law_number.nd rfl (Or.inl rfl) (pv 1))
      (C8.pss_cut (ps_if (pt_cmpR op_lt (pv 1) (pe_callB call_len_seq (by rfl) T.n_len PySem.boot_len (pa_cons (pv 0) pa_nil)) (nomark _)) (pss_one (ps_set (i := 2) sc__law_number.nd rfl (Or.inl rfl) (pe_ix ix_list (pv 0) (pv 1) (fun _ _ => rfl)))) pss_nil)
      (pss_cons (ps_if (PW.pt (pw_or (pt_cmpR op_ge (pv 2) (pe_op op_pow pe_int pe_int) (nomark _)) (pw_or1 (pt_cmpR op_lt (pv 2) pe_int (nomark _))))) (pss_one (ps_ret (pe_callB call_abs (by rfl) T.n_abs (by decide +kernel) (pa_cons (pv 2) pa_nil)))) pss_nil)
      (pss_one (ps_ret (pe_op op_mod (pe_callTy call_int1 (by rfl) T.n_int (by decide +kernel) (pa_cons (pe_op op_mul (pe_op op_mod (pe_callTy call_int1 (by rfl) T.n_int (by decide +kernel) (pa_cons (pe_op op_mul (pe_op op_add (pe_op op_add (pv 2) (pe_op op_mul pe_int (pv 1))) pe_int) pe_int) pa_nil)) pe_int) pe_int) pa_nil)) pe_int)))))), ?_⟩
    refine ⟨_, rfl, fun σ' G => H = G ∧ ∃ c : Int, σ' = [some (.ref a), some (.int k), some (.int c)], ?_, ?_⟩
    · refine ⟨.int k, rfl, .ref a, rfl, a, _, rfl, .inl hS, _, _, rfl, rfl, _, rfl, ifd (fun hc => ?_) (fun hc => ?_)⟩
      · rw [List.length_map] at hc
        obtain ⟨m, rfl⟩ := Int.eq_ofNat_of_zero_le hk.1
        have hg : ns[m]? = some ns[m] := List.getElem?_eq_getElem (by omega)
        exact ⟨_, rfl, _, rfl, a, _, _, _, rfl, rfl, hS, at_map hg, rfl, _, rfl⟩
      · exact ⟨rfl, _, rfl⟩
    rintro σ' _ ⟨rfl, c, rfl⟩
    refine ⟨_, rfl, _, _, rfl, rfl, ⟨by decide, by decide, by decide⟩, _, _, rfl, rfl, _, rfl, ifd (fun hb => ?_) (fun hb => ?_)⟩
    · refine ⟨_, rfl, _, rfl, q _ ?_⟩
      split <;> omega
    · refine ⟨_, rfl, _, _, rfl, rfl, _, rfl, ifd (fun hb2 => ?_) (fun hb2 => ?_)⟩
      · refine ⟨_, rfl, _, rfl, q _ ?_⟩
        split <;> omega
      · refine ⟨_, rfl, _, rfl, _, _, rfl, rfl, .inl ⟨by decide, by decide⟩, _, _, rfl, rfl, _, _, rfl, rfl, _, _, rfl, rfl, .inr ⟨by decide, by decide⟩, .inl ⟨_, rfl, _, _, rfl, rfl, (by show (0 : Int) < _; decide), _, _, rfl, rfl, .inr ⟨by decide, by decide⟩, .inl ⟨_, rfl, _, _, rfl, rfl, (by show (0 : Int) < _; decide), q _ (Int.emod_nonneg _ (by decide))⟩⟩⟩
theorem ok__law_digits (T : TX K mg) : FnOk P w K mg base CX0 2 T.a__law_digits T.d__law_digits ["script", "k", "sizes"] (sp_digits K) := by
  refine T.F__law_digits.ok sc__law_digits (fun vs H Q E h => ?_) (fun cdv A outer s H vs Q E hr h => ?_)
  · obtain ⟨a, b, ns, zs, k, rfl, _⟩ := h
    rfl
  · obtain ⟨a, b, ns, zs, k, rfl, hS, hk, hB, hzl, hz, q⟩ := h
    refine ⟨_, (pss_cons (ps_set (i := 3) sc__law_digits.nd rfl (Or.inl rfl) (pe_call (ok__law_number T) (hr.mono (by decide)) (by rfl) T.g__law_number T.F__law_number.kp T.b__law_number .nil pass0 (pa_cons (pv 0) (pa_cons (pv 1) pa_nil))))
      (pss_cons (ps_set (i := 4) sc__law_digits.nd rfl (Or.inl rfl) (pe_lst pa_nil))
      (pss_cons (ps_for PassesOwn.never rfl (pi_list (pv 2)) (pg_name (i := 5) sc__law_digits.nd rfl (Or.inl rfl))
        (pss_cons (ps_expr (pe_bm PySem.F.plainAttrs_list PySem.F.slot_list_append PySem.F.type_list_append mt_append (pv 4) (pa_cons (pe_op op_mod (pe_callTy call_int1 (by rfl) T.n_int (by decide +kernel) (pa_cons (pv 3) pa_nil)) (pv 5)) pa_nil)))
        (pss_one (ps_set (i := 3) sc__law_digits.nd rfl (Or.inl rfl) (pe_op op_fdiv (pe_callTy call_int1 (by rfl) T.n_int (by decide +kernel) (pa_cons (pv 3) pa_nil)) (pv 5))))))
      (pss_one (ps_ret (pv 4)))))), ?_⟩
    refine ⟨_, rfl, _, rfl, a, ns, k, rfl, hS, hk, fun n hn => ?_⟩
    refine ⟨Nat.zero_le _, fun o ho => ?_⟩
    have s1 := same_upd (o := .lst []) ho
    refine ⟨_, rfl, b, rfl, ⟨_, s1.seq hB⟩, for_list (K := K) (a := b) (xs := zs.map V.int) (fun i σ H2 => ∃ (n : Int) (ds : List Int) (x5 : Option V), 0 ≤ n ∧ σ = [some (.ref a), some (.int k), some (.ref b), some (.int n), some (.ref o), x5] ∧ Same H H2 ∧ H2 o = some (.lst (ds.map V.int)) ∧ Digs ds (zs.take i))
      ⟨n, [], none, hn, rfl, s1, upd_same, trivial⟩ (fun i σ H2 _ ⟨_, _, _, _, _, h, _⟩ => h.seq hB) ?_ ?_⟩
    · rintro i x σ H2 hx ⟨n, ds, x5, hn, rfl, g1, g2, g3⟩
      obtain ⟨z, hzi, rfl⟩ := map_at hx
      have z0 := hz z (List.mem_of_getElem? hzi)
      have hl := digs_len g3
      rw [List.length_take] at hl
      refine ⟨_, rfl, .inl ⟨rfl, _, sql g2⟩, _, rfl, .inl ⟨_, rfl, _, rfl, _, _, rfl, rfl, z0.1, o, _, _, rfl, rfl, g2, szl (by rw [List.length_map]; omega), ?_⟩⟩
      refine ⟨_, rfl, .inl ⟨_, rfl, _, rfl, _, _, rfl, rfl, z0, ?_⟩⟩
      refine ⟨n / z, ds ++ [n % z], _, Int.ediv_nonneg hn (by omega), rfl, same_put g1 ho, ?_, ?_⟩
      · rw [upd_same, List.map_append]
        rfl
      · rw [take_more hzi]
        exact digs_snoc g3 (Int.emod_nonneg _ (by omega)) (Int.emod_lt_of_pos _ z0.1)
    · rintro σ H2 ⟨n, ds, x5, hn, rfl, g1, g2, g3⟩
      rw [List.length_map, List.take_length] at g3
      exact ⟨_, rfl, q o _ ds ho g1 g2 g3⟩
end
/-! texts of numbers, items of written lists -/
theorem slen_app (a b : Str) : (a ++ b).length = a.length + b.length := by
  show (a.cps ++ b.cps).size = a.cps.size + b.cps.size
  rw [Array.size_append]
theorem strN_len : ∀ n : Nat, n < 1101 → (Str.ofString (toString (n : Int))).length ≤ 8 := by decide +kernel
theorem strN_log : ∀ n : Nat, n < 1101 → ((n : Int).natAbs).log2 < 1920 := by decide +kernel
theorem strI {i : Int} (h : 0 ≤ i ∧ i ≤ 1100) : i.natAbs.log2 < 1920 ∧ (Str.ofString (toString i)).length ≤ 8 := by
  obtain ⟨n, rfl⟩ := Int.eq_ofNat_of_zero_le h.1
  exact ⟨strN_log n (by omega), strN_len n (by omega)⟩
theorem at_strs {zs : List Str} {i : Int} (h0 : 0 ≤ i) (h1 : i < zs.length) : ∃ z, z ∈ zs ∧ atI (zs.map V.str) i = some (.str z) := by
  obtain ⟨n, rfl⟩ := Int.eq_ofNat_of_zero_le h0
  have hn : n < zs.length := by omega
  exact ⟨zs[n], List.getElem_mem hn, at_map (List.getElem?_eq_getElem hn)⟩
inductive En where
  | node (n : Str) (b : Int)
  | task (n : Str) (k b : Int) (st : Str) (sp : Int) (nd : Str)
def valD : En → PyData
  | .node _ b => .tuple [.int (3 + b), .int 0, .int 1, .int 0, .str "w1"]
  | .task _ _ b st sp nd => .tuple [.int b, .str "run", .int 1, .str st, .int sp, .str nd, .int 1, .str ""]
def enD : En → PyData
  | .node n b => .tuple [.str "node", .str n, .int 1, .int 1, valD (.node n b)]
  | .task n k b st sp nd => .tuple [.str "task", .str n, .int (5 + k), .int (5 + k), valD (.task n k b st sp nd)]
def placed (st : Str) : Bool := inV (.str st) [.str "bound", .str "running"]
def isPl : En → Bool
  | .task _ _ _ st _ _ => placed st
  | _ => false
def mine (node : Str) (born : Int) : En → Bool
  | .task _ _ b _ _ nd => decide (V.str nd = V.str node) && decide (V.int b = V.int born)
  | _ => false
def cnt (node : Str) (born : Int) (es : List En) : Nat := ((es.filter isPl).filter (mine node born)).length
def sp_placed (K : PySem.W.Frag) : Sp := fun vs H Q _ => ∃ (v : V) (ds : List PyData) (st : Str), vs = [v] ∧ Dp K H v (.tuple ds) ∧ ds[3]? = some (.str st) ∧ ∀ H', Same H H' → Q (.bl (placed st)) H'
def sp_same (K : PySem.W.Frag) : Sp := fun vs H Q _ => ∃ (a : Addr) (xs : List V) (es : List En) (node : Str) (born : Int), vs = [.ref a, .str node, .int born] ∧ SqL K H a xs ∧ DpAll K H xs (es.map enD) ∧ es.length ≤ 1000 ∧ ∀ H', Same H H' → Q (.int (cnt node born es : Nat)) H'
def sp_entry (K : PySem.W.Frag) : Sp := fun vs H Q _ => ∃ (a : Addr) (ns : List Int) (k : Int), vs = [.ref a, .int k] ∧ SqL K H a (ns.map V.int) ∧ (0 ≤ k ∧ k ≤ 1000) ∧ ∀ p e H', H p = none → Same H H' → (∀ G, (∀ b o, H b = none → H' b = some o → G b = some o) → Dp K G (.ref p) (enD e)) → Q (.ref p) H'
def sp_law (K : PySem.W.Frag) : Sp := fun vs H Q _ => ∃ (a : Addr) (ns : List Int), vs = [.ref a] ∧ SqL K H a (ns.map V.int) ∧ ns.length ≤ 63 ∧ ∀ H', Q (.bl true) H'
section
variable {P : Program} {w : World} {K : PySem.W.Frag} {mg : Str → Option Value} {base : Heap}
theorem ok_is_placed (T : TX K mg) : FnOk P w K mg base CX0 1 T.a_is_placed T.d_is_placed ["value"] (sp_placed K) := by
  refine T.F_is_placed.ok sc_is_placed (fun vs H Q E h => ?_) (fun cdv A outer s H vs Q E hr h => ?_)
  · obtain ⟨v, ds, st, rfl, _⟩ := h
    rfl
  · obtain ⟨v, ds, st, rfl, hv, h3, q⟩ := h
    refine ⟨_, (pss_one (ps_ret (pe_cmpR op_in_seq (pe_ix ix_tup (pv 0) (pe_glob (v := .int 3) (by rfl) T.c_STATE ⟨_, rfl⟩) (fun _ _ => rfl)) (pe_tup (pa_cons pe_str (pa_cons pe_str pa_nil))) rfl))), ?_⟩
    obtain ⟨p, xs, rfl, ht, ha⟩ := dp_tup hv
    have hl := dpa_len ha
    have h3l := (List.getElem?_eq_some_iff.mp h3).1
    have hx : xs[3]? = some xs[3] := List.getElem?_eq_getElem (by omega)
    obtain ⟨d, hd, hdp⟩ := dpa_at ha hx
    rw [h3] at hd
    cases hd
    have hx' := dp_str hdp
    rw [hx'] at hx
    refine ⟨_, rfl, p, xs, 3, _, rfl, rfl, ht, atI_nat (j := 3) hx, (by show 2 ≤ sizeLine; decide), fun t hn => ?_⟩
    refine ⟨t, _, rfl, .inr (sqt upd_same), rfl, rfl, ?_⟩
    exact q _ (same_upd hn)
theorem ok_same_service (T : TX K mg) : FnOk P w K mg base CX0 2 T.a_same_service T.d_same_service ["entries", "node", "service_born"] (sp_same K) := by
  refine T.F_same_service.ok sc_same_service (fun vs H Q E h => ?_) (fun cdv A outer s H vs Q E hr h => ?_)
  · obtain ⟨a, xs, es, node, born, rfl, _⟩ := h
    rfl
  · obtain ⟨a, xs, es, node, born, rfl, hL, hx, hl, q⟩ := h
    refine ⟨_, (pss_cons (ps_setLc (i := 3) (own := [("kind", 4), ("_", 5), ("value", 6)])   (by rfl) sc_same_service.nd rfl rfl (sw_true rfl rfl rfl (by decide +kernel)) (pi_list (pv 0)) (blkOk_by (own := [("kind", 4), ("_", 5), ("value", 6)]) (N := ["entries", "node", "service_born", "tasks", "kind", "_", "value", "task"]) (sc := defScope s_same_service) (by decide +kernel)) (fun _ _ _ _ _ => (pgK_tup (K := K) (n := 5) rfl rfl (pgs_cons (pg_name (i := 4) sc_same_service.nd rfl (Or.inl rfl)) (pgs_cons (pg_name (i := 5) sc_same_service.nd rfl (Or.inl rfl)) (pgs_cons (pg_name (i := 5) sc_same_service.nd rfl (Or.inl rfl)) (pgs_cons (pg_name (i := 5) sc_same_service.nd rfl (Or.inl rfl)) (pgs_cons (pg_name (i := 6) sc_same_service.nd rfl (Or.inl rfl)) pgs_nil))))))) (fun _ _ _ _ _ => pts_one (PW.pt (pw_and (pt_cmpR op_eq (pv 4) pe_str (nomark _)) (pw_and1 (pt_val (pe_call (ok_is_placed T) (hr.mono (by decide)) (by rfl) T.g_is_placed T.F_is_placed.kp T.b_is_placed .nil pass0 (pa_cons (pv 6) pa_nil))))))) (fun _ _ _ _ _ => (pv 6)))
      (pss_one (ps_ret (pe_callB call_len_seq (by rfl) T.n_len PySem.boot_len (pa_cons (pe_lc (own := [("task", 7)]) (g := gName 7)  (by rfl) sc_same_service.nd (pi_list (pv 3)) (blkOk_by (own := [("task", 7)]) (N := ["entries", "node", "service_born", "tasks", "kind", "_", "value", "task"]) (sc := defScope s_same_service) (by decide +kernel)) (fun _ _ _ _ _ => pg_name (i := 7) sc_same_service.nd rfl (Or.inl rfl)) (fun _ _ _ _ _ => pts_one (PW.pt (pw_and (pt_cmpR op_eq (pe_ix (ixK_tup (K := K) rfl) (pv 7) (pe_glob (v := .int 5) (by rfl) T.c_NODE ⟨_, rfl⟩) (fun _ _ => rfl)) (pv 1) (nomark _)) (pw_and1 (pt_cmpR op_eq (pe_ix (ixK_tup (K := K) rfl) (pv 7) (pe_glob (v := .int 0) (by rfl) T.c_SERVICE_BORN ⟨_, rfl⟩) (fun _ _ => rfl)) (pv 2) (nomark _)))))) (fun _ _ _ _ _ => (pv 7))) pa_nil))))), ?_⟩
    refine ⟨_, rfl, a, rfl, ⟨_, hL⟩, fun D hD => ?_⟩
    refine lcd (K := K) es enD (fun e => if isPl e = true then some (valD e) else none) hD hL hx (by omega) ?_ ?_
    · intro x e G he s1 hGD hdp J j1 j2
      cases e with
      | node n b =>
        obtain ⟨p, v0, v1, v2, v3, v, rfl, ht, ⟨⟩, ⟨⟩, ⟨⟩, ⟨⟩, hv⟩ := dp_t5 hdp
        have ht := sqt_same s1 ht
        exact ⟨p, _, rfl, ht, rfl, _, _, rfl, _, _, rfl, _, _, rfl, _, _, rfl, _, _, rfl, rfl, rfl, _, rfl, rfl, _, rfl, iff0 (by decide +kernel) (ifbf rfl (j1 _ (Same.refl _) rfl))⟩
      | task n k b st sp nd =>
        obtain ⟨p, v0, v1, v2, v3, v, rfl, ht, ⟨⟩, ⟨⟩, ⟨⟩, ⟨⟩, hv⟩ := dp_t5 hdp
        have ht := sqt_same s1 ht
        refine ⟨p, _, rfl, ht, rfl, _, _, rfl, _, _, rfl, _, _, rfl, _, _, rfl, _, _, rfl, rfl, rfl, _, rfl, rfl, _, rfl, ift rfl ?_⟩
        refine ⟨_, rfl, v, _, st, rfl, dp_same s1 _ hv, rfl, fun G' s2 => ⟨_, rfl, ifb2 (fun hp => ?_) (fun hp => ?_)⟩⟩
        · exact ⟨v, rfl, j2 v _ G' s2 (fun G'' s3 o => dp_same s3 _ hv) (if_pos hp)⟩
        · exact j1 _ s2 (if_neg (by simp [isPl, hp]))
    · intro H' ys s1 e1 h1
      rw [fm_if] at h1
      have hl2 : (es.filter isPl).length ≤ es.length := List.length_filter_le _ _
      refine ⟨_, rfl, D, rfl, ⟨_, sql e1⟩, fun D2 hD2 => ?_⟩
      refine lcd (K := K) (es.filter isPl) valD (fun e => if mine node born e = true then some (valD e) else none) hD2 (sql e1) h1 (by omega) ?_ ?_
      · intro x e G he s2 hGD hdp J j1 j2
        have hpl := (List.mem_filter.mp he).2
        cases e with
        | node n b => cases hpl
        | task n k b st sp nd =>
          obtain ⟨p, v0, v1, v2, v3, v4, v5, v6, v7, rfl, ht, ⟨⟩, ⟨⟩, ⟨⟩, ⟨⟩, ⟨⟩, ⟨⟩, ⟨⟩, ⟨⟩⟩ := dp_t8 hdp
          have ht := sqt_same s2 ht
          refine ⟨rfl, _, rfl, p, _, 5, _, rfl, rfl, ht, atI_nat (j := 5) rfl, _, rfl, rfl, _, rfl, ifd (fun h1 => ?_) (fun h1 => ifbf rfl ?_)⟩
          · refine ⟨_, rfl, p, _, 0, _, rfl, rfl, ht, atI_nat (j := 0) rfl, _, rfl, rfl, _, rfl, ifd (fun h2 => ?_) (fun h2 => ?_)⟩
            · exact ⟨_, rfl, j2 _ _ G (Same.refl _) (fun G'' s3 o => dp_same s3 _ hdp) (if_pos (by simp [mine, h1, h2]))⟩
            · exact j1 _ (Same.refl _) (if_neg (by simp [mine, h2]))
          · exact j1 _ (Same.refl _) (if_neg (by simp [mine, h1]))
      · intro H2 zs s2 e2 h2
        rw [fm_if] at h2
        have hz := dpa_len h2
        rw [List.length_map] at hz
        refine ⟨D2, zs, rfl, .inl (sql e2), ?_⟩
        rw [hz]
        exact q _ (s1.trans s2)
theorem ok__law_entry (T : TX K mg) : FnOk P w K mg base CX0 3 T.a__law_entry T.d__law_entry ["script", "k"] (sp_entry K) := by
  refine T.F__law_entry.ok sc__law_entry (fun vs H Q E h => ?_) (fun cdv A outer s H vs Q E hr h => ?_)
  · obtain ⟨a, ns, k, rfl, _⟩ := h
    rfl
  · obtain ⟨a, ns, k, rfl, hS, hk, q⟩ := h
    refine ⟨_, (pss_cons (ps_set (i := 2) sc__law_entry.nd rfl (Or.inl rfl) (pe_lst (pa_cons pe_str (pa_cons pe_str (pa_cons pe_str (pa_cons pe_str (pa_cons pe_str pa_nil)))))))
      (pss_cons (ps_set (i := 3) sc__law_entry.nd rfl (Or.inl rfl) (pe_lst (pa_cons pe_str (pa_cons pe_str (pa_cons pe_str (pa_cons pe_str pa_nil))))))
      (pss_cons (ps_asg (pe_call (ok__law_digits T) (hr.mono (by decide)) (by rfl) T.g__law_digits T.F__law_digits.kp T.b__law_digits .nil pass0 (pa_cons (pv 0) (pa_cons (pv 1) (pa_cons (pe_lst (pa_cons pe_int (pa_cons pe_int (pa_cons pe_int (pa_cons pe_int (pa_cons pe_int pa_nil)))))) pa_nil)))) (pg_unl rfl (pgs_cons (pg_name (i := 4) sc__law_entry.nd rfl (Or.inl rfl)) (pgs_cons (pg_name (i := 5) sc__law_entry.nd rfl (Or.inl rfl)) (pgs_cons (pg_name (i := 6) sc__law_entry.nd rfl (Or.inl rfl)) (pgs_cons (pg_name (i := 7) sc__law_entry.nd rfl (Or.inl rfl)) (pgs_cons (pg_name (i := 8) sc__law_entry.nd rfl (Or.inl rfl)) pgs_nil)))))))
      (pss_cons (ps_if (pt_cmpR op_eq (pv 8) pe_int (nomark _)) (pss_one (ps_ret (pe_tup (pa_cons pe_str (pa_cons (pe_op op_add_str pe_str (pe_callTy call_str_int (by rfl) T.n_str (by decide +kernel) (pa_cons (pv 1) pa_nil))) (pa_cons pe_int (pa_cons pe_int (pa_cons (pe_tup (pa_cons (pe_op op_add pe_int (pv 4)) (pa_cons pe_int (pa_cons pe_int (pa_cons pe_int (pa_cons pe_str pa_nil)))))) pa_nil)))))))) pss_nil)
      (pss_cons (ps_set (i := 9) sc__law_entry.nd rfl (Or.inl rfl) (pe_tup (pa_cons (pe_op op_add pe_int (pv 4)) (pa_cons pe_str (pa_cons pe_int (pa_cons (pe_ix ix_list (pv 2) (pv 5) (fun _ _ => rfl)) (pa_cons (pv 6) (pa_cons (pe_ix ix_list (pv 3) (pv 7) (fun _ _ => rfl)) (pa_cons pe_int (pa_cons pe_str pa_nil))))))))))
      (pss_one (ps_ret (pe_tup (pa_cons pe_str (pa_cons (pe_op op_add_str (pe_op op_add_str pe_str (pe_callTy call_str_int (by rfl) T.n_str (by decide +kernel) (pa_cons (pv 1) pa_nil))) pe_str) (pa_cons (pe_op op_add pe_int (pv 1)) (pa_cons (pe_op op_add pe_int (pv 1)) (pa_cons (pv 9) pa_nil))))))))))))), ?_⟩
    refine ⟨(by show 5 ≤ sizeLine; decide), fun p1 h1 => ⟨(by show 4 ≤ sizeLine; decide), fun p2 h2 => ?_⟩⟩
    have s1 := same_upd (o := .lst [.str "new", .str "bound", .str "running", .str "ended", .str "running"]) h1
    have s2 := same_upd (o := .lst [.str "w1", .str "w2", .str "w10", .str ""]) h2
    have e1 := s2 _ _ (upd_same (H := H) (a := p1) (o := .lst [.str "new", .str "bound", .str "running", .str "ended", .str "running"]))
    have e2 := upd_same (H := upd H p1 (.lst [.str "new", .str "bound", .str "running", .str "ended", .str "running"])) (a := p2) (o := .lst [.str "w1", .str "w2", .str "w10", .str ""])
    have s12 := s1.trans s2
    generalize upd (upd H p1 (.lst [.str "new", .str "bound", .str "running", .str "ended", .str "running"])) p2 (.lst [.str "w1", .str "w2", .str "w10", .str ""]) = H2 at e1 e2 s12
    refine ⟨_, rfl, _, rfl, (by show 5 ≤ sizeLine; decide), fun z hz => ?_⟩
    have s3 := same_upd (o := .lst [.int 3, .int 5, .int 2, .int 4, .int 7]) hz
    refine ⟨a, z, ns, [3, 5, 2, 4, 7], k, rfl, (s12.trans s3).seq hS, ⟨by omega, by omega⟩, sql upd_same, by decide, (by simp), fun p H3 ds hp s4 e4 hd => ?_⟩
    obtain ⟨born, state, stop, node, kind, rfl, b1, b2, b3, b4, b5⟩ := digs5 hd
    have s5 := s12.trans (s3.trans s4)
    have e1 := s4 _ _ (s3 _ _ e1)
    have e2 := s4 _ _ (s3 _ _ e2)
    refine ⟨p, _, rfl, sql e4, rfl, _, _, rfl, _, _, rfl, _, _, rfl, _, _, rfl, _, _, rfl, rfl, ?_⟩
    have hs := strI (i := k) (by omega)
    refine ⟨_, rfl, rfl, _, rfl, ifd (fun hc => ?_) (fun hc => ?_)⟩
    · refine ⟨_, rfl, k, rfl, hs.1, _, _, rfl, rfl, ?_, _, rfl, _, _, rfl, rfl, (by show 5 ≤ sizeLine; decide), fun p5 h5 => ⟨(by show 5 ≤ sizeLine; decide), fun p6 h6 => ?_⟩⟩
      · exact sz (by have := hs.2; show 1 + _ ≤ 100000; omega)
      · have n56 : p5 ≠ p6 := fun z => by rw [z, upd_same] at h6; cases h6
        refine q p6 (.node (Str.ofString "w" ++ Str.ofString (toString k)) born) _ ((s5.trans (same_upd h5)).free h6) ((s5.trans (same_upd h5)).trans (same_upd h6)) fun G g => ?_
        have g5 := g p5 _ (s5.free h5) (by rw [upd_ne n56, upd_same])
        have g6 := g p6 _ ((s5.trans (same_upd h5)).free h6) upd_same
        exact .tup (sqt g6) (.cons (.str _) (.cons (.str _) (.cons (.int _) (.cons (.int _) (.cons (.tup (sqt g5) (.cons (.int _) (.cons (.int _) (.cons (.int _) (.cons (.int _) (.cons (.str _) .nil)))))) .nil)))))
    · obtain ⟨st, _, hst⟩ := at_strs (zs := ["new", "bound", "running", "ended", "running"]) (i := state) b2.1 (by show state < 5; omega)
      obtain ⟨nd, _, hnd⟩ := at_strs (zs := ["w1", "w2", "w10", ""]) (i := node) b4.1 (by show node < 4; omega)
      refine ⟨_, rfl, _, _, rfl, rfl, _, rfl, _, rfl, p1, _, state, .str st, rfl, rfl, sql e1, hst, _, rfl, _, rfl, _, rfl, p2, _, node, .str nd, rfl, rfl, sql e2, hnd, (by show 8 ≤ sizeLine; decide), fun p5 h5 => ?_⟩
      have s6 := s5.trans (same_upd (o := .tup [.int (3 + born), .str "run", .int 1, .str st, .int stop, .str nd, .int 1, .str ""]) h5)
      have e5 := upd_same (H := H3) (a := p5) (o := .tup [.int (3 + born), .str "run", .int 1, .str st, .int stop, .str nd, .int 1, .str ""])
      refine ⟨_, rfl, k, rfl, hs.1, _, _, rfl, rfl, ?_, _, _, rfl, rfl, ?_, _, rfl, _, _, rfl, rfl, _, rfl, _, _, rfl, rfl, _, rfl, (by show 5 ≤ sizeLine; decide), fun p6 h6 => ?_⟩
      · exact sz (by have := hs.2; show 1 + _ ≤ 100000; omega)
      · refine sz ?_
        rw [slen_app]
        have := hs.2
        show 1 + _ + 2 ≤ 100000
        omega
      · have n56 : p5 ≠ p6 := ne_of_none e5 h6
        refine q p6 (.task (Str.ofString "t" ++ Str.ofString (toString k) ++ Str.ofString "/0") k (3 + born) st stop nd) _ (s6.free h6) (s6.trans (same_upd h6)) fun G g => ?_
        have g5 := g p5 _ (s5.free h5) (by rw [upd_ne n56, upd_same])
        have g6 := g p6 _ (s6.free h6) upd_same
        exact .tup (sqt g6) (.cons (.str _) (.cons (.str _) (.cons (.int _) (.cons (.int _) (.cons (.tup (sqt g5) (.cons (.int _) (.cons (.str _) (.cons (.int _) (.cons (.str _) (.cons (.int _) (.cons (.str _) (.cons (.int _) (.cons (.str _) .nil))))))))) .nil)))))
end
theorem cnt_eq (node : Str) (born : Int) (es : List En) : cnt node born es = (es.filter fun e => mine node born e && isPl e).length := by
  unfold cnt
  rw [List.filter_filter]
section
variable {P : Program} {w : World} {K : PySem.W.Frag} {mg : Str → Option Value} {base : Heap}
theorem ok_law (T : TX K mg) : FnOk P w K mg base CX0 4 T.a_law T.d_law ["script"] (sp_law K) := by
  refine T.F_law.ok sc_law (fun vs H Q E h => ?_) (fun cdv A outer s H vs Q E hr h => ?_)
  · obtain ⟨a, ns, rfl, _⟩ := h
    rfl
  · obtain ⟨a, ns, rfl, hS, hlen, q⟩ := h
    refine ⟨_, (pss_cons (ps_set (i := 1) sc_law.nd rfl (Or.inl rfl) (pe_ix ix_list (pe_call (ok__law_digits T) (hr.mono (by decide)) (by rfl) T.g__law_digits T.F__law_digits.kp T.b__law_digits .nil pass0 (pa_cons (pv 0) (pa_cons pe_int (pa_cons (pe_lst (pa_cons pe_int pa_nil)) pa_nil)))) pe_int (fun _ _ => rfl)))
      (pss_cons (ps_setLc (i := 2) (own := [("k", 12)]) (g := gName 12) (tt := tYes) (by rfl) sc_law.nd rfl rfl (sw_true rfl rfl rfl (by decide +kernel)) (pi_range1 (by rfl) T.n_range (pa_cons (pv 1) pa_nil)) (blkOk_by (own := [("k", 12)]) (N := ["script", "size", "entries", "node", "born", "due", "kind", "name", "made", "rev", "value", "actual", "k"]) (sc := defScope s_law) (by decide +kernel)) (fun _ _ _ _ _ => pg_name (i := 12) sc_law.nd rfl (Or.inl rfl)) (fun _ _ _ _ _ => pts_nil) (fun _ _ _ _ _ => (pe_call (ok__law_entry T) (hr.mono (by decide)) (by rfl) T.g__law_entry T.F__law_entry.kp T.b__law_entry .nil pass0 (pa_cons (pv 0) (pa_cons (pe_op op_add pe_int (pv 12)) pa_nil)))))
      (pss_cons (ps_for PassesOwn.never rfl (pi_list (pe_lst (pa_cons pe_str (pa_cons pe_str (pa_cons pe_str (pa_cons pe_str pa_nil)))))) (pg_name (i := 3) sc_law.nd rfl (Or.inl rfl))
        (pss_one (ps_for PassesOwn.never rfl (pi_list (pe_lst (pa_cons pe_int (pa_cons pe_int (pa_cons pe_int (pa_cons pe_int pa_nil)))))) (pg_name (i := 4) sc_law.nd rfl (Or.inl rfl))
          (pss_cons (ps_set (i := 5) sc_law.nd rfl (Or.inl rfl) pe_int)
          (pss_cons (ps_for PassesOwn.never rfl (pi_list (pv 2)) (pg_tup (by rfl) (pgs_cons (pg_name (i := 6) sc_law.nd rfl (Or.inl rfl)) (pgs_cons (pg_name (i := 7) sc_law.nd rfl (Or.inl rfl)) (pgs_cons (pg_name (i := 8) sc_law.nd rfl (Or.inl rfl)) (pgs_cons (pg_name (i := 9) sc_law.nd rfl (Or.inl rfl)) (pgs_cons (pg_name (i := 10) sc_law.nd rfl (Or.inl rfl)) pgs_nil))))))
            (pss_one (ps_if (PW.pt (pw_and (pt_cmpR op_eq (pv 6) pe_str (nomark _)) (pw_and (pt_cmpR op_eq (pe_ix ix_tup (pv 10) pe_int (fun _ _ => rfl)) (pv 4) (nomark _)) (pw_and (pt_cmpR op_eq (pe_ix ix_tup (pv 10) pe_int (fun _ _ => rfl)) (pv 3) (nomark _)) (pw_and1 (pt_cmpR op_in_seq (pe_ix ix_tup (pv 10) pe_int (fun _ _ => rfl)) (pe_lst (pa_cons pe_str (pa_cons pe_str pa_nil))) rfl)))))) (pss_one (ps_aug (i := 5) sc_law.nd rfl (Or.inl rfl) pe_int ip_add)) pss_nil)))
          (pss_cons (ps_set (i := 11) sc_law.nd rfl (Or.inl rfl) (pe_call (ok_same_service T) (hr.mono (by decide)) (by rfl) T.g_same_service T.F_same_service.kp T.b_same_service .nil pass0 (pa_cons (pv 2) (pa_cons (pv 3) (pa_cons (pv 4) pa_nil)))))
          (pss_one (ps_if (PW.pt (pw_or (pt_not (pt_val (pe_callB call_isi (by rfl) T.n_isinstance (by decide +kernel) (pa_cons (pv 11) (pa_cons (pe_bltn (v := .ty "int") (u := .type "int") (by rfl) T.n_int (by decide +kernel) rfl) pa_nil))))) (pw_or (pt_val (pe_callB call_isi (by rfl) T.n_isinstance (by decide +kernel) (pa_cons (pv 11) (pa_cons (pe_bltn (v := .ty "bool") (u := .type "bool") (by rfl) T.n_bool (by decide +kernel) rfl) pa_nil)))) (pw_or1 (pt_cmpR op_ne (pv 11) (pv 5) (nomark _)))))) (pss_one (ps_ret pe_bl)) pss_nil))))))))
      (pss_one (ps_ret pe_bl))))), ?_⟩
    refine ⟨_, rfl, (by show 1 ≤ sizeLine; decide), fun z hz => ?_⟩
    have s1 := same_upd (o := .lst [.int 41]) hz
    refine ⟨a, z, ns, [41], 0, rfl, s1.seq hS, ⟨by omega, by omega⟩, sql upd_same, by decide, (by simp), fun p H1 ds hp s2 e2 hd => ?_⟩
    obtain ⟨size, rfl, z0, z1⟩ := digs1 hd
    have s3 := s1.trans s2
    refine ⟨p, _, 0, _, rfl, rfl, sql e2, atI_nat (j := 0) rfl, ?_⟩
    have hS1 := s3.seq hS
    clear s1 s2 e2 hd hp hz
    -- the entries
    refine ⟨_, rfl, size, rfl, by omega, by omega, fun D hD => ?_⟩
    refine lcg (K := K) (walk_range (lo := 0) (n := size.toNat)) (fun i ds => ∃ es : List En, ds = es.map enD ∧ es.length = i) ⟨[], rfl, rfl⟩ hD (fun _ _ => trivial) (by omega) ?_ ?_
    · rintro i x G G1 ds hi s4 ⟨l, hl⟩ ⟨es, rfl, he⟩ ⟨rfl, rfl⟩ J j1 j2
      refine ⟨rfl, ?_⟩
      dsimp only [tYes]
      refine (if_pos rfl).mpr ?_
      refine ⟨_, rfl, _, rfl, _, _, rfl, rfl, a, ns, _, rfl, s4.seq hS1, ⟨by omega, by omega⟩, fun p e H' hp s5 hdp => ?_⟩
      refine j2 _ (enD e) H' s5 (fun G'' s6 o => hdp G'' fun b u hb hb' => o b u (fun z => by rw [z, hl] at hb; cases hb) hb') ⟨es ++ [e], by simp, by simp [he]⟩
    rintro H2 ys _ s4 e4 h4 ⟨es, rfl, hes⟩
    have hly : ys.length = es.length := by have := dpa_len h4; rwa [List.length_map] at this
    -- each node
    refine ⟨(by show 4 ≤ sizeLine; decide), fun l hl => ⟨l, rfl, ⟨_, sql upd_same⟩, ?_⟩⟩
    refine for_list (K := K) (a := l) (xs := ([Str.ofString "w1", Str.ofString "w2", Str.ofString "w10", Str.ofString "w"] : List Str).map V.str) (fun j σ G => ∃ x3 x4 x5 x6 x7 x8 x9 x10 x11 x12, σ = [some (.ref a), some (.int size), some (.ref D), x3, x4, x5, x6, x7, x8, x9, x10, x11, x12] ∧ Same H2 G ∧ G l = some (.lst (([Str.ofString "w1", Str.ofString "w2", Str.ofString "w10", Str.ofString "w"] : List Str).map V.str)))
      ⟨_, _, _, _, _, _, _, _, _, _, rfl, same_upd hl, upd_same⟩ (fun _ _ _ _ ⟨_, _, _, _, _, _, _, _, _, _, _, _, h⟩ => sql h) ?_ ?_
    · rintro j x σ G hx ⟨x3, x4, x5, x6, x7, x8, x9, x10, x11, x12, rfl, s5, e5⟩
      obtain ⟨node, _, rfl⟩ := map_at hx
      refine ⟨(by show 4 ≤ sizeLine; decide), fun l2 hl2 => ⟨l2, rfl, ⟨_, sql upd_same⟩, ?_⟩⟩
      refine for_list (K := K) (a := l2) (xs := ([3, 4, 5, 6] : List Int).map V.int) (fun j σ G => ∃ x4 x5 x6 x7 x8 x9 x10 x11 x12, σ = [some (.ref a), some (.int size), some (.ref D), some (.str node), x4, x5, x6, x7, x8, x9, x10, x11, x12] ∧ Same H2 G ∧ G l = some (.lst (([Str.ofString "w1", Str.ofString "w2", Str.ofString "w10", Str.ofString "w"] : List Str).map V.str)) ∧ G l2 = some (.lst (([3, 4, 5, 6] : List Int).map V.int)))
        ⟨_, _, _, _, _, _, _, _, _, rfl, s5.trans (same_upd hl2), by rw [upd_ne (ne_of_none e5 hl2)]; exact e5, upd_same⟩ (fun _ _ _ _ ⟨_, _, _, _, _, _, _, _, _, _, _, _, h⟩ => sql h) ?_ ?_
      · rintro j x σ G hx ⟨x4, x5, x6, x7, x8, x9, x10, x11, x12, rfl, s6, e6, e7⟩
        obtain ⟨born, _, rfl⟩ := map_at hx
        refine ⟨_, rfl, D, rfl, ⟨_, sql (s6 _ _ e4)⟩, ?_⟩
        refine for_list (K := K) (a := D) (xs := ys) (fun i σ G => ∃ x6 x7 x8 x9 x10, σ = [some (.ref a), some (.int size), some (.ref D), some (.str node), some (.int born), some (.int (((es.take i).filter fun e => mine node born e && isPl e).length : Nat)), x6, x7, x8, x9, x10, x11, x12] ∧ Same H2 G ∧ G l = some (.lst (([Str.ofString "w1", Str.ofString "w2", Str.ofString "w10", Str.ofString "w"] : List Str).map V.str)) ∧ G l2 = some (.lst (([3, 4, 5, 6] : List Int).map V.int)))
          ⟨_, _, _, _, _, rfl, s6, e6, e7⟩ (fun _ _ _ _ ⟨_, _, _, _, _, _, h, _⟩ => sql (h _ _ e4)) ?_ ?_
        · rintro i x σ G hx ⟨x6, x7, x8, x9, x10, rfl, s7, e8, e9⟩
          obtain ⟨d, hd, hdp⟩ := dpa_at h4 hx
          rw [List.getElem?_map] at hd
          cases he : es[i]? with
          | none => rw [he] at hd; cases hd
          | some e =>
            rw [he] at hd
            cases hd
            cases e with
            | node n b =>
              obtain ⟨p, v0, v1, v2, v3, v, rfl, ht1, ⟨⟩, ⟨⟩, ⟨⟩, ⟨⟩, hv⟩ := dp_t5 hdp
              have ht1 := sqt_same s7 ht1
              refine ⟨p, _, rfl, ht1, rfl, _, _, rfl, _, _, rfl, _, _, rfl, _, _, rfl, _, _, rfl, rfl, ?_⟩
              refine ⟨_, rfl, rfl, _, rfl, iff0 (by decide +kernel) (ifbf rfl ?_)⟩
              rw [tf_no he (by simp [mine])]
              exact ⟨_, _, _, _, _, rfl, s7, e8, e9⟩
            | task n k b st sp nd =>
              obtain ⟨p, v0, v1, v2, v3, v, rfl, ht1, ⟨⟩, ⟨⟩, ⟨⟩, ⟨⟩, hv⟩ := dp_t5 hdp
              obtain ⟨p2, v0, v1, v2, v3, v4, v5, v6, v7, rfl, ht2, ⟨⟩, ⟨⟩, ⟨⟩, ⟨⟩, ⟨⟩, ⟨⟩, ⟨⟩, ⟨⟩⟩ := dp_t8 hv
              have ht1 := sqt_same s7 ht1
              have ht2 := sqt_same s7 ht2
              refine ⟨p, _, rfl, ht1, rfl, _, _, rfl, _, _, rfl, _, _, rfl, _, _, rfl, _, _, rfl, rfl, ?_⟩
              refine ⟨_, rfl, rfl, _, rfl, ift rfl ?_⟩
              refine ⟨_, rfl, p2, _, 0, _, rfl, rfl, ht2, atI_nat (j := 0) rfl, _, rfl, rfl, _, rfl, ifd (fun h1 => ?_) (fun h1 => ifbf rfl ?_)⟩
              · refine ⟨_, rfl, p2, _, 5, _, rfl, rfl, ht2, atI_nat (j := 5) rfl, _, rfl, rfl, _, rfl, ifd (fun h2 => ?_) (fun h2 => ifbf rfl ?_)⟩
                · refine ⟨_, rfl, p2, _, 3, _, rfl, rfl, ht2, atI_nat (j := 3) rfl, (by show 2 ≤ sizeLine; decide), fun t htn => ⟨t, _, rfl, .inl (sql upd_same), rfl, rfl, _, rfl, ?_⟩⟩
                  have s8 := s7.trans (same_upd (o := .lst [.str "bound", .str "running"]) htn)
                  have e8 := same_upd (o := .lst [.str "bound", .str "running"]) htn _ _ e8
                  have e9 := same_upd (o := .lst [.str "bound", .str "running"]) htn _ _ e9
                  refine ifb2 (fun h3 => ?_) (fun h3 => ?_)
                  · have hm : (mine node born (.task n k b st sp nd) && isPl (.task n k b st sp nd)) = true := by
                      simp only [mine, isPl, placed, Bool.and_eq_true, decide_eq_true_eq]
                      exact ⟨⟨h2, h1⟩, h3⟩
                    refine ⟨_, rfl, _, _, rfl, rfl, ?_⟩
                    rw [tf_yes he hm]
                    exact ⟨_, _, _, _, _, rfl, s8, e8, e9⟩
                  · have hm : (mine node born (.task n k b st sp nd) && isPl (.task n k b st sp nd)) = false := by
                      simp only [mine, isPl, placed, Bool.and_eq_false_iff]
                      exact .inr h3
                    rw [tf_no he hm]
                    exact ⟨_, _, _, _, _, rfl, s8, e8, e9⟩
                · rw [tf_no he (by simp [mine, h2])]
                  exact ⟨_, _, _, _, _, rfl, s7, e8, e9⟩
              · rw [tf_no he (by simp [mine, h1])]
                exact ⟨_, _, _, _, _, rfl, s7, e8, e9⟩
        · rintro σ G ⟨x6, x7, x8, x9, x10, rfl, s7, e8, e9⟩
          rw [hly, List.take_length, ← cnt_eq]
          refine ⟨_, rfl, _, rfl, _, rfl, D, ys, es, node, born, rfl, sql (s7 _ _ e4), dpa_same s7 _ h4, by omega, fun G2 s8 => ?_⟩
          have s9 := s7.trans s8
          have e8 := s8 _ _ e8
          have e9 := s8 _ _ e9
          refine ⟨_, rfl, .int _, .ty "int", .type "int", .type "int", true, rfl, .ty _, .base (.int _), kit_ty (by decide +kernel), _, rfl, ifbf rfl ?_⟩
          refine ⟨_, rfl, .int _, .ty "bool", .type "int", .type "bool", false, rfl, .ty _, .base (.int _), kit_ty (by decide +kernel), _, rfl, ifbf rfl ?_⟩
          refine ⟨_, rfl, _, rfl, rfl, _, rfl, ifnt rfl ?_⟩
          exact ⟨_, _, _, _, _, _, _, _, _, rfl, s9, e8, e9⟩
      · rintro σ G ⟨x4, x5, x6, x7, x8, x9, x10, x11, x12, rfl, s6, e6, e7⟩
        exact ⟨_, _, _, _, _, _, _, _, _, _, rfl, s6, e6⟩
    · rintro σ G ⟨x3, x4, x5, x6, x7, x8, x9, x10, x11, x12, rfl, s5, e5⟩
      exact q _
end
theorem all_mk {l : PySem.W.OpenLaw} {w : World} {K : PySem.W.Frag} {h : Heap} {mg : Str → Option Value} {fa : Addr} (X : K.In h) (G : h.Ns mainGlobals mg) (hfa : mg "law" = some (.ref fa))
    {f_is_placed : Addr} {od_is_placed an_is_placed : Option Addr} {sl_is_placed : Array (Option Value)} {oc_is_placed kV_is_placed dc_is_placed pm_is_placed cd_is_placed ct_is_placed : Value} {f_same_service : Addr} {od_same_service an_same_service : Option Addr} {sl_same_service : Array (Option Value)} {oc_same_service kV_same_service dc_same_service pm_same_service cd_same_service ct_same_service : Value} {f__law_number : Addr} {od__law_number an__law_number : Option Addr} {sl__law_number : Array (Option Value)} {oc__law_number kV__law_number dc__law_number pm__law_number cd__law_number ct__law_number : Value} {f__law_digits : Addr} {od__law_digits an__law_digits : Option Addr} {sl__law_digits : Array (Option Value)} {oc__law_digits kV__law_digits dc__law_digits pm__law_digits cd__law_digits ct__law_digits : Value} {f__law_entry : Addr} {od__law_entry an__law_entry : Option Addr} {sl__law_entry : Array (Option Value)} {oc__law_entry kV__law_entry dc__law_entry pm__law_entry cd__law_entry ct__law_entry : Value} {f_law : Addr} {od_law an_law : Option Addr} {sl_law : Array (Option Value)} {oc_law kV_law dc_law pm_law cd_law ct_law : Value} {t_SERVICE_BORN : Tok} {t_STATE : Tok} {t_NODE : Tok}
    (g_is_placed : PySem.W.nsIn K mainGlobals "is_placed" = some (some (.ref f_is_placed)))
    (l_is_placed : K.lookup f_is_placed = some ⟨oc_is_placed, od_is_placed, .func (PySem.W.fnOf "is_placed" "is_placed" (defArgs s_is_placed) (defBody s_is_placed) (defScope s_is_placed) .none kV_is_placed dc_is_placed pm_is_placed an_is_placed cd_is_placed ct_is_placed), sl_is_placed⟩)
    (c_is_placed : PySem.W.codeIn K cd_is_placed "is_placed" = true)
    (k_is_placed : PySem.W.keepIn K (.ref f_is_placed) = true)
    (g_same_service : PySem.W.nsIn K mainGlobals "same_service" = some (some (.ref f_same_service)))
    (l_same_service : K.lookup f_same_service = some ⟨oc_same_service, od_same_service, .func (PySem.W.fnOf "same_service" "same_service" (defArgs s_same_service) (defBody s_same_service) (defScope s_same_service) .none kV_same_service dc_same_service pm_same_service an_same_service cd_same_service ct_same_service), sl_same_service⟩)
    (c_same_service : PySem.W.codeIn K cd_same_service "same_service" = true)
    (k_same_service : PySem.W.keepIn K (.ref f_same_service) = true)
    (g__law_number : PySem.W.nsIn K mainGlobals "_law_number" = some (some (.ref f__law_number)))
    (l__law_number : K.lookup f__law_number = some ⟨oc__law_number, od__law_number, .func (PySem.W.fnOf "_law_number" "_law_number" (defArgs s__law_number) (defBody s__law_number) (defScope s__law_number) .none kV__law_number dc__law_number pm__law_number an__law_number cd__law_number ct__law_number), sl__law_number⟩)
    (c__law_number : PySem.W.codeIn K cd__law_number "_law_number" = true)
    (k__law_number : PySem.W.keepIn K (.ref f__law_number) = true)
    (g__law_digits : PySem.W.nsIn K mainGlobals "_law_digits" = some (some (.ref f__law_digits)))
    (l__law_digits : K.lookup f__law_digits = some ⟨oc__law_digits, od__law_digits, .func (PySem.W.fnOf "_law_digits" "_law_digits" (defArgs s__law_digits) (defBody s__law_digits) (defScope s__law_digits) .none kV__law_digits dc__law_digits pm__law_digits an__law_digits cd__law_digits ct__law_digits), sl__law_digits⟩)
    (c__law_digits : PySem.W.codeIn K cd__law_digits "_law_digits" = true)
    (k__law_digits : PySem.W.keepIn K (.ref f__law_digits) = true)
    (g__law_entry : PySem.W.nsIn K mainGlobals "_law_entry" = some (some (.ref f__law_entry)))
    (l__law_entry : K.lookup f__law_entry = some ⟨oc__law_entry, od__law_entry, .func (PySem.W.fnOf "_law_entry" "_law_entry" (defArgs s__law_entry) (defBody s__law_entry) (defScope s__law_entry) .none kV__law_entry dc__law_entry pm__law_entry an__law_entry cd__law_entry ct__law_entry), sl__law_entry⟩)
    (c__law_entry : PySem.W.codeIn K cd__law_entry "_law_entry" = true)
    (k__law_entry : PySem.W.keepIn K (.ref f__law_entry) = true)
    (g_law : PySem.W.nsIn K mainGlobals "law" = some (some (.ref f_law)))
    (l_law : K.lookup f_law = some ⟨oc_law, od_law, .func (PySem.W.fnOf "law" "law" (defArgs s_law) (defBody s_law) (defScope s_law) .none kV_law dc_law pm_law an_law cd_law ct_law), sl_law⟩)
    (c_law : PySem.W.codeIn K cd_law "law" = true)
    (k_law : PySem.W.keepIn K (.ref f_law) = true)
    (c_SERVICE_BORN : PySem.W.nsIn K mainGlobals "SERVICE_BORN" = some (some (.int 0 t_SERVICE_BORN)))
    (c_STATE : PySem.W.nsIn K mainGlobals "STATE" = some (some (.int 3 t_STATE)))
    (c_NODE : PySem.W.nsIn K mainGlobals "NODE" = some (some (.int 5 t_NODE)))
    (n_len : PySem.W.nsIn K mainGlobals "len" = some none)
    (n_abs : PySem.W.nsIn K mainGlobals "abs" = some none)
    (n_int : PySem.W.nsIn K mainGlobals "int" = some none)
    (n_str : PySem.W.nsIn K mainGlobals "str" = some none)
    (n_range : PySem.W.nsIn K mainGlobals "range" = some none)
    (n_isinstance : PySem.W.nsIn K mainGlobals "isinstance" = some none)
    (n_bool : PySem.W.nsIn K mainGlobals "bool" = some none) :
    ∃ fd : FuncData, (∀ (s : Shared) (v : Value), BindsTo s fd ⟨[v], []⟩ [("script", v)]) ∧ ∀ base : Heap, K.In base → base.Ns mainGlobals mg → FnOk l.prog w K mg base CX0 4 fa fd ["script"] (sp_law K) := by
  have e : fa = f_law := by
    have z := hfa.symm.trans (PySem.W.mg_of X G g_law)
    injection z with z
    injection z
  rw [e]
  let T : TX K mg := ⟨f_is_placed, (PySem.W.fnOf "is_placed" "is_placed" (defArgs s_is_placed) (defBody s_is_placed) (defScope s_is_placed) .none kV_is_placed dc_is_placed pm_is_placed an_is_placed cd_is_placed ct_is_placed), (fun_mk (st := s_is_placed) l_is_placed c_is_placed k_is_placed), ((fun_mk (st := s_is_placed) l_is_placed c_is_placed k_is_placed).binds (ps := ["value"]) fun _ _ _ _ _ _ us hl => match us, hl with | [_], _ => rfl), (PySem.W.mg_of X G g_is_placed), f_same_service, (PySem.W.fnOf "same_service" "same_service" (defArgs s_same_service) (defBody s_same_service) (defScope s_same_service) .none kV_same_service dc_same_service pm_same_service an_same_service cd_same_service ct_same_service), (fun_mk (st := s_same_service) l_same_service c_same_service k_same_service), ((fun_mk (st := s_same_service) l_same_service c_same_service k_same_service).binds (ps := ["entries", "node", "service_born"]) fun _ _ _ _ _ _ us hl => match us, hl with | [_, _, _], _ => rfl), (PySem.W.mg_of X G g_same_service), f__law_number, (PySem.W.fnOf "_law_number" "_law_number" (defArgs s__law_number) (defBody s__law_number) (defScope s__law_number) .none kV__law_number dc__law_number pm__law_number an__law_number cd__law_number ct__law_number), (fun_mk (st := s__law_number) l__law_number c__law_number k__law_number), ((fun_mk (st := s__law_number) l__law_number c__law_number k__law_number).binds (ps := ["script", "k"]) fun _ _ _ _ _ _ us hl => match us, hl with | [_, _], _ => rfl), (PySem.W.mg_of X G g__law_number), f__law_digits, (PySem.W.fnOf "_law_digits" "_law_digits" (defArgs s__law_digits) (defBody s__law_digits) (defScope s__law_digits) .none kV__law_digits dc__law_digits pm__law_digits an__law_digits cd__law_digits ct__law_digits), (fun_mk (st := s__law_digits) l__law_digits c__law_digits k__law_digits), ((fun_mk (st := s__law_digits) l__law_digits c__law_digits k__law_digits).binds (ps := ["script", "k", "sizes"]) fun _ _ _ _ _ _ us hl => match us, hl with | [_, _, _], _ => rfl), (PySem.W.mg_of X G g__law_digits), f__law_entry, (PySem.W.fnOf "_law_entry" "_law_entry" (defArgs s__law_entry) (defBody s__law_entry) (defScope s__law_entry) .none kV__law_entry dc__law_entry pm__law_entry an__law_entry cd__law_entry ct__law_entry), (fun_mk (st := s__law_entry) l__law_entry c__law_entry k__law_entry), ((fun_mk (st := s__law_entry) l__law_entry c__law_entry k__law_entry).binds (ps := ["script", "k"]) fun _ _ _ _ _ _ us hl => match us, hl with | [_, _], _ => rfl), (PySem.W.mg_of X G g__law_entry), f_law, (PySem.W.fnOf "law" "law" (defArgs s_law) (defBody s_law) (defScope s_law) .none kV_law dc_law pm_law an_law cd_law ct_law), (fun_mk (st := s_law) l_law c_law k_law), ((fun_mk (st := s_law) l_law c_law k_law).binds (ps := ["script"]) fun _ _ _ _ _ _ us hl => match us, hl with | [_], _ => rfl), (PySem.W.mg_of X G g_law), t_SERVICE_BORN, (PySem.W.mg_of X G c_SERVICE_BORN), t_STATE, (PySem.W.mg_of X G c_STATE), t_NODE, (PySem.W.mg_of X G c_NODE), (PySem.W.mg_none_of X G n_len), (PySem.W.mg_none_of X G n_abs), (PySem.W.mg_none_of X G n_int), (PySem.W.mg_none_of X G n_str), (PySem.W.mg_none_of X G n_range), (PySem.W.mg_none_of X G n_isinstance), (PySem.W.mg_none_of X G n_bool)⟩
  exact ⟨T.d_law, fun s v => .of_eq rfl, fun base _ _ => ok_law T⟩
end My
open PySem PySem.W PyProof.Rows
set_option maxHeartbeats 0 in
theorem PySem.Challenge.cw_majordomo_k69_tasks_of_a_service_holds : PySem.Challenge.rw_majordomo_k69_tasks_of_a_service.Holds := by
  w_on; o_law; k_head; (case hw => w_witness2)
  k_fill
  refine L2.walk_of (l := PySem.Challenge.rw_majordomo_k69_tasks_of_a_service) (n := 63) (k := 4) (x := "script") (CX := (fun _ => L2.CX0)) (sp := fun w => My.sp_law _) rfl (by decide) rfl ⟨rfl, by decide, by decide⟩ (fun w h Y => PySem.W.kIn_of Y) ?F (fun _ _ a ns hl _ hS => ⟨a, ns, rfl, hS, hl, fun _ => rfl⟩) (fun _ _ _ _ _ h => h)
  case F =>
    intro w mg fa h KX G hmg
    refine' My.all_mk KX G hmg ?g_is_placed ?l_is_placed ?c_is_placed ?k_is_placed ?g_same_service ?l_same_service ?c_same_service ?k_same_service ?g__law_number ?l__law_number ?c__law_number ?k__law_number ?g__law_digits ?l__law_digits ?c__law_digits ?k__law_digits ?g__law_entry ?l__law_entry ?c__law_entry ?k__law_entry ?g_law ?l_law ?c_law ?k_law ?c_SERVICE_BORN ?c_STATE ?c_NODE ?n_len ?n_abs ?n_int ?n_str ?n_range ?n_isinstance ?n_bool
    (case g_is_placed => k_is); (case l_is_placed => k_is); (case c_is_placed => k_is); (case k_is_placed => k_is); (case g_same_service => k_is); (case l_same_service => k_is); (case c_same_service => k_is); (case k_same_service => k_is); (case g__law_number => k_is); (case l__law_number => k_is); (case c__law_number => k_is); (case k__law_number => k_is); (case g__law_digits => k_is); (case l__law_digits => k_is); (case c__law_digits => k_is); (case k__law_digits => k_is); (case g__law_entry => k_is); (case l__law_entry => k_is); (case c__law_entry => k_is); (case k__law_entry => k_is); (case g_law => k_is); (case l_law => k_is); (case c_law => k_is); (case k_law => k_is); (case c_SERVICE_BORN => k_is); (case c_STATE => k_is); (case c_NODE => k_is); (case n_len => k_is); (case n_abs => k_is); (case n_int => k_is); (case n_str => k_is); (case n_range => k_is); (case n_isinstance => k_is); (case n_bool => k_is)

