/-
  VECTORS IN MEMORY: sixteen numbers by value, in a block of their own; held against each other.
  No conditions.
  VECTORS, PLAINLY: right, join, meet, covers, used, total; and what a program's type tables say of them.
  No conditions.
  Right, of both sides; used; Total of both sides.
  No conditions.
  Join and Meet, of both sides.
  No conditions.
  Covers, Compare and Total, of both sides.
  No conditions.
  Compare and Total, of both sides.
  No conditions.
-/
import Derived.Test.YtfgnmnkihbgjnaaGreatSh
import Derived.Test.YtfgnmnkihbgjnaaGreatGA
import Derived.Deep.MidRow
import Derived.Deep.RegionHeld
import Derived.ChangeKeysEq
import Derived.Outline
import Derived.Deep.QuietTactic
import Derived.BigQuiet
set_option maxRecDepth 100000
set_option maxHeartbeats 2000000
namespace Go.Proofs.YtfgnmnkihbgjnaaGreat
open Go.RowKit
def vecL (a:Nat→Int):List Value:=(List.range 16).map fun i=>.int .i64 (a i)
theorem vecL_length (a:Nat→Int):(vecL a).length=16:=by simp [vecL]
theorem vecL_get (a:Nat→Int) (i:Nat) (h:i<16):(vecL a)[i]?=some (.int .i64 (a i)):=by simp [vecL,h]
theorem vecL_one (a:Nat→Int):∀ v ∈ vecL a,v.oneCell'=true:=by
 intro v hv
 obtain ⟨i,-,rfl⟩:=List.mem_map.1 hv
 rfl
theorem vecL_congr {a b:Nat→Int} (h:∀ i,i<16→a i=b i):vecL a=vecL b:=List.map_congr_left fun i hi=>by rw [h i (by simpa using hi)]
def vecA (a:Nat→Int):Array Value:=(vecL a).toArray
theorem vecA_size (a:Nat→Int):(vecA a).size=16:=by simp [vecA,vecL_length]
theorem vecA_get (a:Nat→Int) (i:Nat) (h:i<16):(vecA a)[i]?=some (.int .i64 (a i)):=by simp [vecA,vecL_get a i h]
theorem vecA_congr {a b:Nat→Int} (h:∀ i,i<16→a i=b i):vecA a=vecA b:=by rw [vecA,vecA,vecL_congr h]
def eqv (a b:Nat→Int):Bool:=(List.range 16).all fun i=>a i == b i
theorem eqv_iff {a b:Nat→Int}:eqv a b=true ↔ ∀ i,i<16→a i=b i:=by simp [eqv]
theorem eqv_refl (a:Nat→Int):eqv a a=true:=eqv_iff.2 fun _ _=>rfl
def VAt (w:World) (b:Nat) (a:Nat→Int):Prop:=∃ T,w.heap[b]?=some (.cells (vecA a) T (0,0))
theorem VAt.cell {w:World} {b:Nat} {a:Nat→Int} (h:VAt w b a) (i:Nat) (hi:i<16):w.cell? ⟨b,i,none⟩=some (.int .i64 (a i)):=by
 obtain ⟨T,h⟩:=h
 rw [cell_of_row w b i _ T (0,0) h,vecA_get a i hi]
theorem VAt.lt {w:World} {b:Nat} {a:Nat→Int} (h:VAt w b a):b<w.heap.size:=cell_lt (h.cell 0 (by decide))
theorem VAt.free {w:World} {b:Nat} {a:Nat→Int} (h:VAt w b a) (i:Nat):w.frozen? ⟨b,i,none⟩=false:=by
 obtain ⟨T,h⟩:=h
 exact frozen_of_row w b i _ T h
theorem VAt.below {w w':World} {b:Nat} {a:Nat→Int} (h:VAt w b a) {B:Nat} (hb:Below B w w') (hB:b<B):VAt w' b a:=by
 obtain ⟨T,h⟩:=h
 exact ⟨T,by rw [hb.block b hB]; exact h⟩
theorem VAt.kept {w w':World} {b:Nat} {a:Nat→Int} (h:VAt w b a) (hb:Below w.heap.size w w'):VAt w' b a:=h.below hb h.lt
theorem VAt.drew {w:World} {b:Nat} {a:Nat→Int} (h:VAt w b a):VAt w.drew b a:=h
theorem VAt.new (w:World) (a:Nat→Int) (T:TypeId):VAt (w.alloc (.cells (vecA a) T)) w.heap.size a:=⟨T,heap_alloc_new w _⟩
theorem VAt.set {w:World} {b:Nat} {a:Nat→Int} (h:VAt w b a) (i:Nat) (x:Int):VAt (w.setCell ⟨b,i,none⟩ (.int .i64 x)) b (fun j=>if j=i then x else a j):=by
 obtain ⟨T,h⟩:=h
 refine ⟨T,?_⟩
 rw [heap_setCell_same w b i _ T _ h]
 congr 2
 apply Array.ext_getElem?
 intro j
 by_cases hj:j<16
 ·rw [Array.getElem?_setIfInBounds,vecA_get _ j hj,vecA_get _ j hj,vecA_size]
  by_cases e:i=j
  ·subst e; simp [hj]
  ·rw [if_neg e,if_neg (fun h=>e h.symm)]
 ·rw [Array.getElem?_eq_none (by simp [vecA_size]; omega),Array.getElem?_eq_none (by rw [vecA_size]; omega)]
theorem VAt.congr {w:World} {b:Nat} {a c:Nat→Int} (h:VAt w b a) (e:∀ i,i<16→a i=c i):VAt w b c:=by
 obtain ⟨T,h⟩:=h
 exact ⟨T,by rw [← vecA_congr e]; exact h⟩
theorem VAt.setOther {w:World} {b c:Nat} {a:Nat→Int} (h:VAt w b a) (hne:b≠c) (i:Nat) (x:Value):VAt (w.setCell ⟨c,i,none⟩ x) b a:=by
 obtain ⟨T,h⟩:=h
 exact ⟨T,by rw [heap_setCell_other w ⟨c,i,none⟩ b x hne]; exact h⟩
section
variable {P:Program} (w:World)
theorem run_part_vec (e:TypeId) (he:P.underlying e=some (.int .i64)) (a:Nat→Int) (i:Nat) (hi:i<16):(part e (vecA a) i).run P w=.ok (.int .i64 (a i)) w:=by
 simp [part,isAgg,run_underlying he,vecA_get a i hi]
theorem run_index_vec (t e:TypeId) (ht:P.underlying t=some (.array 16 e)) (he:P.underlying e=some (.int .i64)) (hsz:∀ w,(sizeOf e).run P w=.ok 1 w) (a:Nat→Int) (i:Nat) (hi:i<16) :
  (Instr.index t (.agg (vecA a)) (.int .i64 (i:Int))).run P w=.ok (.int .i64 (a i)) w:=by
 have h:(0:Int)≤(i:Int)∧(i:Int)<16:=⟨by omega,by omega⟩
 simp [Instr.index,run_underlying ht,asIntOf,h,hsz,run_part_vec w e he a i hi]
 omega
theorem run_equalIn_vec (d:Nat) (t e:TypeId) (ht:P.underlying t=some (.array 16 e)) (he:P.underlying e=some (.int .i64)) (hsz:∀ w,(sizeOf e).run P w=.ok 1 w) (a b:Nat→Int) :
  (Op.equalIn (d+2) t (.agg (vecA a)) (.agg (vecA b))).run P w=.ok (eqv a b) w:=by
 rw [eqv,List.range_eq_range',Op.equalIn]
 simp only [Sem.run_bind,run_underlying ht,Result.andThen_ok,hsz,Std.Legacy.Range.forIn_eq_forIn_range',Std.Legacy.Range.size,Nat.sub_zero,Nat.add_sub_cancel,Nat.div_one]
 have hl:∀ i ∈ List.range' 0 16 1,i<16:=fun i hi=>by simpa using (List.mem_range'_1.1 hi).2
 generalize List.range' 0 16 1=l at hl ⊢
 induction l with
 | nil=>simp
 | cons i l ih =>
  have hi:i<16:=hl i (by simp)
  have pe:(Op.equalIn (d+1) e (.int .i64 (a i)) (.int .i64 (b i))).run P w=.ok (a i == b i) w:=run_equalIn_int w d e .i64 .i64 _ _ he
  simp only [List.forIn_cons,Sem.run_bind,Nat.mul_one,run_part_vec w e he _ i hi,pe,Result.andThen_ok,List.all_cons]
  cases hb:(a i == b i)
  ·simp
  ·simp only [Bool.not_true,Bool.false_eq_true,if_false,Sem.run_pure,Result.andThen_ok,Bool.true_and]
   have:=ih fun j hj=>hl j (by simp [hj])
   simp only [Nat.mul_one] at this
   exact this
theorem run_loadAt_vec (t e:TypeId) (ht:P.underlying t=some (.array 16 e)) (hi:(P.info? t).map (·.size)=some 16) (b:Nat) (a:Nat→Int) (h:VAt w b a) :
  (Instr.loadAt t (.pointer (some ⟨b,0,none⟩))).run P w=.ok (.agg (vecA a)) w:=by
 obtain ⟨T,h⟩:=h
 simp only [Instr.loadAt,Instr.sureAddr,Sem.run_bind,Sem.run_pure,Result.andThen_ok]
 exact run_loadVar_row w b T t _ (0,0) _ h ht rfl (by rw [vecA_size]; exact hi)
end
open Go.RowKit
def vOk (a:Nat→Int) (k:Nat):Bool:=(List.range k).all fun i=>decide (0≤a i) && decide (a i≤512)
def vRight (a:Nat→Int):Bool:=vOk a 16
theorem vOk_iff {a:Nat→Int} {k:Nat}:vOk a k=true ↔ ∀ i,i<k→0≤a i∧a i≤512:=by simp [vOk]
theorem vRight_iff {a:Nat→Int}:vRight a=true ↔ ∀ i,i<16→0≤a i∧a i≤512:=vOk_iff
theorem vOk_succ {a:Nat→Int} {k:Nat} (h:vOk a k=true) (h0:0≤a k) (h1:a k≤512):vOk a (k+1)=true:=by
 rw [vOk_iff] at h ⊢
 intro i hi
 rcases Nat.lt_or_ge i k with e | e
 ·exact h i e
 ·obtain rfl:i=k:=by omega
  exact ⟨h0,h1⟩
theorem vRight_bad {a:Nat→Int} {k:Nat} (hk:k<16) (h:a k<0∨512<a k):vRight a=false:=by
 rw [Bool.eq_false_iff]
 intro hr
 have:=vRight_iff.1 hr k hk
 omega
def upTo (k:Nat) (f a:Nat→Int):Nat→Int:=fun i=>if i<k then f i else a i
def coversB (a b:Nat→Int):Bool:=(List.range 16).all fun i=>decide (b i≤a i)
theorem coversB_iff {a b:Nat→Int}:coversB a b=true ↔ ∀ i,i<16→b i≤a i:=by simp [coversB]
def sumTo (a:Nat→Int):Nat→Int
 | 0=>0
 | k+1=>sumTo a k+a k
def totalF (a:Nat→Int):Int:=if vRight a=true then sumTo a 16 else 0
theorem sumTo_bd {a:Nat→Int} (h:vRight a=true) (k:Nat) (hk:k≤16):0≤sumTo a k∧sumTo a k≤512 * k:=by
 induction k with
 | zero=>exact ⟨Int.le_refl _,by simp [sumTo]⟩
 | succ k ih =>
  have:=ih (by omega)
  have:=vRight_iff.1 h k (by omega)
  rw [sumTo]
  omega
structure VT (P:Program) (t:TypeId):Prop where
 und:P.underlying t=some (.array 16 3)
 size:(P.info? t).map (·.size)=some 16
theorem i_int:Tryz.prog.underlying 3=some (.int .i64):=by kernel_rfl
theorem sz_int:∀ w,(sizeOf 3).run Tryz.prog w=.ok 1 w:=fun _=>by kernel_rfl
theorem vtP:VT Tryz.prog 64:=⟨by kernel_rfl,by kernel_rfl⟩
theorem vtR:VT Tryz.prog 24:=⟨by kernel_rfl,by kernel_rfl⟩
theorem VT.load {t:TypeId} (h:VT Tryz.prog t) {w:World} {b:Nat} {a:Nat→Int} (hv:VAt w b a):(Instr.loadAt t (.pointer (some ⟨b,0,none⟩))).run Tryz.prog w=.ok (.agg (vecA a)) w:=run_loadAt_vec w t _ h.und h.size b a hv
theorem VT.index {t:TypeId} (h:VT Tryz.prog t) (w:World) (a:Nat→Int) (i:Nat) (hi:i<16):(Instr.index t (.agg (vecA a)) (.int .i64 (i:Int))).run Tryz.prog w=.ok (.int .i64 (a i)) w:=run_index_vec w t _ h.und i_int sz_int a i hi
theorem VT.eq {t:TypeId} (h:VT Tryz.prog t) (w:World) (a b:Nat→Int):(Op.equalIn 10000 t (.agg (vecA a)) (.agg (vecA b))).run Tryz.prog w=.ok (eqv a b) w:=run_equalIn_vec w 9998 t _ h.und i_int sz_int a b
theorem VT.slice {t:TypeId} (h:VT Tryz.prog t) (W:World) (b n:Nat) (hn:n≤16):(Instr.sliceAt t (.pointer (some ⟨b,0,none⟩)) none (some (.int .i64 (n:Int))) none).run Tryz.prog W=.ok (.slice (some ⟨b,0,none⟩) n 16) W:=by
 have e1:Tryz.prog.arrayLen t=16:=by unfold Program.arrayLen; rw [h.und]
 have e2:Tryz.prog.elem t=3:=by unfold Program.elem; rw [h.und]
 rw [run_sliceAt_array_h W t ⟨b,0,none⟩ (by rw [e1,e2]; exact h.und) .i64 (n:Int) (by omega) (by rw [e1]; omega),e2,sz_int,Result.andThen_ok,e1]
 rfl
theorem wpList_load_vec {t:TypeId} (V:VT Tryz.prog t) {ops:Array Oper} {rest:List Oper} {o:Oper} {a:Act} {w:World} {Q:Exit→Act→World→Prop} (hgd:o.guard=none) (x:Operand) (ho:o.op=.load t x)
  (b:Nat) (hx:a.eval x=.pointer (some ⟨b,0,none⟩)) (v:Nat→Int) (hv:VAt w b v)
  (h:wpList Tryz.prog ops Q rest (a.put o.dst (.agg (vecA v))) w):wpList Tryz.prog ops Q (o :: rest) a w:=by
 obtain ⟨T,hv⟩:=hv
 exact wpList_load_row hgd t x ho b hx T _ (0,0) _ hv V.und rfl (by rw [vecA_size]; exact V.size) h
theorem run_storeVar_vec {t:TypeId} (V:VT Tryz.prog t) (w:World) (b:Nat) (T:TypeId) (u v:Nat→Int) (hv:w.heap[b]?=some (.cells (vecA u) T (0,0))):(storeVar t ⟨b,0,none⟩ (.agg (vecA v))).run Tryz.prog w=.ok () (w.setRow b (vecA v)):=by
 have:=run_storeCells_from (P:=Tryz.prog) b T (vecA v).toList 0 (vecA u) w hv (by simp [vecA_size]) (fun x hx=>vecL_one v x (by simpa [vecA] using hx))
 have hi:=V.size
 cases hq:(Tryz.prog).info? t with
 | none=>simp [hq] at hi
 | some i =>
  have hs:i.size=(vecA v).size:=by simp [hq] at hi; rw [vecA_size,hi]
  simp only [List.take_zero,List.nil_append,Array.toArray_toList] at this
  simp [storeVar,sizeOf,typeInfo,hq,Value.cells,hs,this]
theorem wpList_load_vecG {t:TypeId} (V:VT Tryz.prog t) {ops:Array Oper} {rest:List Oper} {o:Oper} {a:Act} {w:World} {Q:Exit→Act→World→Prop} (hgd:Region.wanted o (yielded ops a.tmps)=true) (x:Operand) (ho:o.op=.load t x)
  (b:Nat) (hx:a.eval x=.pointer (some ⟨b,0,none⟩)) (v:Nat→Int) (hv:VAt w b v)
  (h:wpList Tryz.prog ops Q rest (a.put o.dst (.agg (vecA v))) w):wpList Tryz.prog ops Q (o :: rest) a w:=by
 obtain ⟨T,hv⟩:=hv
 rw [wpList,if_pos hgd]
 exact Or.inl (wp_load_row t x ho b hx T _ (0,0) _ hv V.und rfl (by rw [vecA_size]; exact V.size) h)
theorem results_vec {t:TypeId} (V:VT Tryz.prog t) {fn:Func} {p:Tmp} (tmps:Array Value) {w:World} {g:Nat} {v:Nat→Int} (h:fn.results=#[.cell p t]) (hv:VAt w g v) (hp:tmps.getD p undef=.pointer (some ⟨g,0,none⟩)) :
  (results fn tmps).run Tryz.prog w=.ok (.agg (vecA v)) w:=by
 obtain ⟨T,hv⟩:=hv
 exact results_cell_row h tmps w g T _ (0,0) _ hp hv V.und rfl (by rw [vecA_size]; exact V.size)
theorem wpList_store_vec {t:TypeId} (V:VT Tryz.prog t) {ops:Array Oper} {rest:List Oper} {o:Oper} {a:Act} {w:World} {Q:Exit→Act→World→Prop} (hgd:o.guard=none) (x y:Operand) (ho:o.op=.store t x y)
  (b:Nat) (hx:a.eval x=.pointer (some ⟨b,0,none⟩)) (u v:Nat→Int) (hv:VAt w b u) (hy:a.eval y=.agg (vecA v))
  (h:∀ w':World,VAt w' b v→(∀ k,k≠b→w'.heap[k]?=w.heap[k]?)→w'.heap.size=w.heap.size→(∀ B w0,Below B w0 w→B≤b→Below B w0 w')→wpList Tryz.prog ops Q rest (a.put o.dst undef) w'):wpList Tryz.prog ops Q (o :: rest) a w:=by
 obtain ⟨T,hv⟩:=hv
 refine wpList_plain hgd fun K hK=>?_
 have hr:=run_storeVar_vec V w b T u v hv
 have hk:K (a.put o.dst undef) (w.setRow b (vecA v)):=by
  refine hK _ _ (h _ ⟨T,setRow_heap w b _ _ T _ hv⟩ (fun k hk=>setRow_other w b k _ hk) (by simp) ?_)
  intro B w0 hb hB
  exact hb.trans ⟨rfl,rfl,rfl,by simp,fun k hk=>setRow_other w b k _ (by omega)⟩
 unfold Oper.wp execOp
 simp only [ho,hx,hy,Instr.storeAt,Instr.sureAddr,Sem.run_bind,Sem.run_pure,Result.andThen_ok,hr]
 exact hk
open Go.RowKit
theorem vret_bool {a b:Bool} (h:a=b):Ending.returned (.bool a)=.returned (.bool b):=by rw [h]
theorem vecright_any (a:Nat→Int) (w:World):Calls Tryz.prog 66 #[.agg (vecA a)] w fun e w'=>e=.returned (.bool (vRight a))∧Below w.heap.size w w':=by
 have hv:=VAt.new w a 64
 have HB:=Hi ((Below.refl w.heap.size w).alloc (Nat.le_refl _) (.cells (vecA a) 64))
 go_enter Tryz.func66,Tryz.ntmps66
 go_wp2_with (refine wpList_load_vec vtP rfl _ rfl _ rfl _ (by assumption) ?_)
 clear hv
 go_loop [6] (fun i=>∃ k:Nat,k≤16∧i=.int .i64 (k:Int)∧vOk a k=true) (fun i=>16 - (intOf i).toNat)
 case atStart=>exact ⟨0,by omega,rfl,rfl⟩
 case round =>
  obtain ⟨k,hk,rfl,ho⟩:=hrel
  have HO:=Hi ho
  clear ho
  by_cases hlt:k<16
  ·have ix:=fun (W:World)=>vtP.index W a k hlt
   by_cases h0:a k<0
   ·have HR:=Hi (vRight_bad hlt (Or.inl h0))
    go_wp2
    go_ret
    exact ⟨vret_bool HR.out.symm,HB.out⟩
   ·by_cases h1:512<a k
    ·have HR:=Hi (vRight_bad hlt (Or.inr h1))
     go_wp2
     go_ret
     exact ⟨vret_bool HR.out.symm,HB.out⟩
    ·have HN:=Hi (vOk_succ HO.out (by omega) (by omega))
     go_wp2
     go_round
     case rel=>exact ⟨k+1,by omega,by go_num,HN.out⟩
     case measure=>simp [intOf]; omega
  ·obtain rfl:k=16:=by omega
   go_wp2
   go_ret
   exact ⟨vret_bool HO.out.symm,HB.out⟩
theorem refRight_any (a:Nat→Int) (w:World):Calls Tryz.prog 69 #[.agg (vecA a)] w fun e w'=>e=.returned (.bool (vRight a))∧Below w.heap.size w w':=by
 have HV:=Hi (VAt.new w a 24)
 have HB:=Hi ((Below.refl w.heap.size w).alloc (Nat.le_refl _) (.cells (vecA a) 24))
 go_enter Tryz.func69,Tryz.ntmps69
 go_wp2
 go_loop [3] (fun i=>∃ k:Nat,k≤16∧i=.int .i64 (k:Int)∧vOk a k=true) (fun i=>16 - (intOf i).toNat)
 case atStart=>exact ⟨0,by omega,rfl,rfl⟩
 case round =>
  obtain ⟨k,hk,rfl,ho⟩:=hrel
  have HO:=Hi ho
  clear ho
  by_cases hlt:k<16
  ·have ix:=HV.out.cell k hlt
   by_cases h0:a k<0
   ·have HR:=Hi (vRight_bad hlt (Or.inl h0))
    go_wp2
    go_ret
    exact ⟨vret_bool HR.out.symm,HB.out⟩
   ·by_cases h1:512<a k
    ·have HR:=Hi (vRight_bad hlt (Or.inr h1))
     go_wp2
     go_ret
     exact ⟨vret_bool HR.out.symm,HB.out⟩
    ·have HN:=Hi (vOk_succ HO.out (by omega) (by omega))
     go_wp2
     go_round
     case rel=>exact ⟨k+1,by omega,by go_num,HN.out⟩
     case measure=>simp [intOf]; omega
  ·obtain rfl:k=16:=by omega
   go_wp2
   go_ret
   exact ⟨vret_bool HO.out.symm,HB.out⟩
open Go.RowKit
theorem upTo_zero (f a:Nat→Int):upTo 0 f a=a:=funext fun i=>by simp [upTo]
theorem upTo_step (f a:Nat→Int) (k:Nat):(fun j=>if j=k then f k else upTo k f a j)=upTo (k+1) f a:=funext fun j=>by
 unfold upTo
 by_cases e:j=k
 ·subst e; simp
 ·by_cases e2:j<k
  ·simp [e,e2]; omega
  ·have:¬ j<k+1:=by omega
   simp [e,e2,this]
theorem upTo_all (f a:Nat→Int):∀ i,i<16→upTo 16 f a i=f i:=fun i hi=>by simp [upTo,hi]
open Go.RowKit
def VBel (w W:World):Prop:=Below w.heap.size w W
theorem VBel.start (w:World):VBel w w.drew:=(Below.refl _ _).drew
theorem VBel.get {w W:World} (h:VBel w W) {a:Addr} {v:Value} (hc:w.cell? a=some v):W.cell? a=some v:=by rw [Below.cell h (cell_lt hc)]; exact hc
theorem VBel.trans {w W W':World} (h:VBel w W) (hb:Below W.heap.size W W'):VBel w W':=Below.trans h (hb.mono (Below.size h))
theorem VAt.bel {w W:World} {b:Nat} {a:Nat→Int} (h:VAt w b a) (hb:VBel w W):VAt W b a:=h.kept hb
theorem exec_load_vec {t:TypeId} (V:VT Tryz.prog t) {c:Act} {w:World} {o:Oper} {x:Operand} (ho:o.op=.load t x) {b:Nat} {v:Nat→Int} (hx:c.eval x=.pointer (some ⟨b,0,none⟩)) (hv:VAt w b v) :
  (execOp c.eval o).run Tryz.prog w=.ok (.value (.agg (vecA v))) w:=by
 unfold execOp
 simp only [ho,hx,Sem.run_bind,V.load hv,Result.andThen_ok,Sem.run_pure]
open Go.RowKit
theorem total_any (a:Nat→Int) (w:World):Calls Tryz.prog 43 #[.agg (vecA a)] w fun e w'=>e=.returned (.int .i64 (totalF a))∧Below w.heap.size w w':=by
 have V:=VAt.new w a 64
 have HB0:=Hi ((Below.refl w.heap.size w).alloc (Nat.le_refl _) (.cells (vecA a) 64))
 have HC:=Hi (fun W=>vecright_any a W)
 by_cases hr:vRight a=true
 ·have HR:=Hi hr
  have HT:=Hi (show totalF a=sumTo a 16 from by unfold totalF; rw [if_pos hr])
  rw [hr] at HC
  clear hr
  go_enter Tryz.func43,Tryz.ntmps43
  go_wp2_with (refine wpList_load_vec vtP rfl _ rfl _ rfl _ (by assumption) ?_)
  refine (HC.out _).mono ?_
  rintro e w1 ⟨rfl,hb1⟩
  have HB1:=Hi (HB0.out.trans (hb1.mono HB0.out.size))
  have V':=V.kept hb1
  clear hb1 V
  go_wp2_with (refine wpList_load_vec vtP rfl _ rfl _ rfl _ (by assumption) ?_)
  clear V'
  go_loop [3,10] (fun s i=>∃ k:Nat,k≤16∧i=.int .i64 (k:Int)∧s=.int .i64 (sumTo a k)) (fun _ i=>16 - (intOf i).toNat)
  case atStart=>exact ⟨0,by omega,rfl,rfl⟩
  case round =>
   obtain ⟨k,hk,rfl,rfl⟩:=hrel
   by_cases hlt:k<16
   ·have ix:=fun (W:World)=>vtP.index W a k hlt
    obtain ⟨h1,h2⟩:=sumTo_bd HR.out k hk
    obtain ⟨h3,h4⟩:=vRight_iff.1 HR.out k hlt
    go_wp2
    go_round
    case rel=>exact ⟨k+1,by omega,by go_num,rfl⟩
    case measure=>simp [intOf]; omega
   ·obtain rfl:k=16:=by omega
    go_wp2
    go_ret
    exact ⟨ret_int HT.out.symm,HB1.out⟩
 ·have HT:=Hi (show totalF a=0 from by unfold totalF; rw [if_neg hr])
  rw [show vRight a=false by simpa using hr] at HC
  clear hr
  go_enter Tryz.func43,Tryz.ntmps43
  go_wp2_with (refine wpList_load_vec vtP rfl _ rfl _ rfl _ (by assumption) ?_)
  refine (HC.out _).mono ?_
  rintro e w1 ⟨rfl,hb1⟩
  have HB1:=Hi (HB0.out.trans (hb1.mono HB0.out.size))
  clear hb1 V
  go_wp2
  go_ret
  exact ⟨ret_int HT.out.symm,HB1.out⟩
end Go.Proofs.YtfgnmnkihbgjnaaGreat
