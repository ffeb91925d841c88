/-
  FROM A LAW's WALK TO ITS STATEMENT: what arguments are read as (bytes, integers, strings in a slice), and how large they may be.
  FROM A LAW's WALK TO ITS STATEMENT: an argument that is an op.
  No conditions.
  FROM A LAW's WALK TO ITS STATEMENT: an argument that is a batch.
  No conditions.
  AN ARGUMENT THAT IS A VECTOR, OPENED.
  No conditions.
  FROM A LAW's WALK TO ITS STATEMENT: an argument that is a list of batches.
  No conditions.
-/
import Derived.Test.YthfhefdfehlbkaaGreatK01
import Derived.Test.YthfhefdfehlbkaaGreatK02
import Derived.ProofKit
import Derived.OpenShut
import Derived.ShutString
import Derived.SizedLaws
import Derived.SliceStrings
import Derived.Test.YthfhefdfehlbkaaGreatK03
import Derived.Lib.SmallJoins
import Derived.Deep.Slices
import Derived.Test.YthfhefdfehlbkaaGreatK04
import Derived.Test.YthfhefdfehlbkaaGreatK07
import Derived.Test.YthfhefdfehlbkaaGreatK06
set_option maxRecDepth 100000
set_option maxHeartbeats 1000000
namespace Go.Proofs.YthfhefdfehlbkaaGreat
open Go.ChangeShapes Go.WideShapes Go.ChangeAt Go.RowKit
open Go.ChangeShapes Go.WideShapes Go.ChangeAt Go.RowKit Go.Deep Go.Joins
theorem flat_get {α:Type} (enc:α→List Value) (k:Nat) (hk0:0<k) (hk:∀ x,(enc x).length=k):∀ (l:List α) (i:Nat) (u:Value),(l.flatMap enc)[i]?=some u→∃ x,l[i / k]?=some x∧(enc x)[i % k]?=some u
 | [],i,u,h=>by simp at h
 | a :: l,i,u,h=>by
  rw [List.flatMap_cons] at h
  by_cases hi:i<k
  ·rw [List.getElem?_append_left (by rw [hk]; exact hi)] at h
   exact ⟨a,by rw [Nat.div_eq_of_lt hi]; rfl,by rw [Nat.mod_eq_of_lt hi]; exact h⟩
  ·rw [List.getElem?_append_right (by rw [hk]; omega),hk] at h
   obtain ⟨x,h1,h2⟩:=flat_get enc k hk0 hk l (i - k) u h
   have e1:i / k=(i - k) / k+1:=by rw [← Nat.sub_add_cancel (Nat.le_of_not_lt hi),Nat.add_div_right _ hk0,Nat.add_sub_cancel]
   have e2:i % k=(i - k) % k:=Nat.mod_eq_sub_mod (Nat.le_of_not_lt hi)
   exact ⟨x,by rw [e1]; exact h1,by rw [e2]; exact h2⟩
section
variable {H:Type} {enc:TypeId × Value→H} {P:Program} {W:World} {held:Bool}
theorem row_of_trod {α:Type} [Inhabited α] {T E:TypeId} (k:Nat) (hk0:0<k) (ce:α→List Value) (hk:∀ x,(ce x).length=k) (ht:P.underlying T=some (.slice E)) (hc:P.cellsOf E=k)
  (hel:∀ (n:Nat) (cs:List Value) (y:DataW H × List MemPlace),cs.length=k→DataW.trod enc P W 0 (fun _=>true) held n E cs=some y→∃ x,cs=ce x)
  {fuel:Nat} {cs:List Value} {x:DataW H × List MemPlace} (h:DataW.trod enc P W 0 (fun _=>true) held fuel T cs=some x) :
  ∃ (a:Option Addr) (cap:Nat) (l:List α),cs=[.slice a l.length cap]∧Rd W a (l.flatMap ce)∧l.length≤cap∧(a=none→cap=0)∧∀ el sp,x.1=.slice el sp→el.length+sp.length=cap:=by
 rcases open_slice ht h with ⟨hcs,hx⟩ | ⟨ad,len,c,m,n,D,Pl,hcs,_,hl,hm,hmm,hx,he⟩
 ·exact ⟨none,0,[],hcs,fun h0=>absurd h0 (Nat.lt_irrefl 0),Nat.le_refl _,fun _=>rfl,fun el sp e=>by rw [hx] at e; cases e⟩
 ·rw [if_pos rfl] at hmm
  subst hmm
  have key:∀ i,i<m→∃ y:α,∀ j,j<k→W.cell? ((ad.add (i * k)).add j)=(ce y)[j]?:=by
   intro i hi'
   obtain ⟨cs',hcl,htr⟩:=he i hi'
   rw [hc] at hcl
   obtain ⟨_,hlen,hat⟩:=World.cells?_some hcl
   obtain ⟨y,rfl⟩:=hel _ _ _ hlen htr
   exact ⟨y,fun j hj=>hat j hj⟩
  have key2:∃ f:Nat→α,∀ i,i<m→∀ j,j<k→W.cell? ((ad.add (i * k)).add j)=(ce (f i))[j]? :=
   ⟨fun i=>if h:i<m then (key i h).choose else default,fun i h=>by simp only [dif_pos h]; exact (key i h).choose_spec⟩
  obtain ⟨f,hf2⟩:=key2
  refine ⟨some ad,m,(List.range len).map f,by rw [List.length_map,List.length_range]; exact hcs,fun h0=>?_,by simpa using hl,(fun e=>by cases e),fun el sp e=>?_⟩
  ·have h00:0<len:=by
    rcases Nat.eq_zero_or_pos len with e | e
    ·subst e; simp at h0
    ·exact e
   have hsp:ad.spot=none:=by
    have h1:=hf2 0 (by omega) 0 hk0
    have e:(ad.add (0 * k)).add 0=ad:=by simp [Addr.add]
    rw [e] at h1
    have hz:(ce (f 0))[0]?≠none:=by
     rw [ne_eq,List.getElem?_eq_none_iff,hk]; omega
    cases hv:(ce (f 0))[0]? with
    | none=>exact absurd hv hz
    | some v=>rw [hv] at h1; exact World.cell?_spot h1
   obtain ⟨b,o,s⟩:=ad
   obtain rfl:s=none:=hsp
   refine ⟨b,o,rfl,fun i u hu=>?_⟩
   obtain ⟨y,h1,h2⟩:=flat_get ce k hk0 hk _ i u hu
   have hi3:i / k<len:=by
    have:=(List.getElem?_eq_some_iff.1 h1).1
    simpa using this
   simp only [List.getElem?_map,List.getElem?_range hi3,Option.map_some,Option.some.injEq] at h1
   subst h1
   have h3:=hf2 (i / k) (by omega) (i % k) (Nat.mod_lt _ hk0)
   simp only [Go.WideShapes.add_plain] at h3
   have e:o+i=o+i / k * k+i % k:=by have:=Nat.div_add_mod i k; rw [Nat.mul_comm] at this; omega
   rw [e,h3,h2]
  ·rw [hx] at e
   simp only [DataW.slice.injEq] at e
   obtain ⟨rfl,rfl⟩:=e
   simp; omega
theorem ints_two {t i:TypeId} {f0 f1:Field} (hs:P.underlying t=some (.struct #[f0,f1])) (hi:P.underlying i=some (.int .i64)) (ht0:f0.type=i) (ht1:f1.type=i) (ho0:f0.offset=0) (ho1:f1.offset=1) (hc:P.cellsOf i=1)
  (n:Nat) (cs:List Value) (y:DataW H × List MemPlace) (h:DataW.trod enc P W 0 (fun _=>true) held n t cs=some y):∃ x:Qm.St,cs[0]?=some (.int .i64 x.1)∧cs[1]?=some (.int .i64 x.2):=by
 obtain ⟨ys,n,-,-,-,hyl,hf⟩:=DataW.trod_struct hs h
 have h0:=hf 0 f0 rfl
 have h1:=hf 1 f1 rfl
 rw [ho0,ht0,hc] at h0
 rw [ho1,ht1,hc] at h1
 cases hy0:ys[0]? with
 | none=>have:=List.getElem?_eq_none_iff.1 hy0; simp at hyl; omega
 | some y0 =>
 cases hy1:ys[1]? with
 | none=>have:=List.getElem?_eq_none_iff.1 hy1; simp at hyl; omega
 | some y1 =>
 rw [hy0] at h0
 rw [hy1] at h1
 obtain ⟨x,e0,-,-⟩:=DataW.trod_int hi h0
 obtain ⟨z,e1,-,-⟩:=DataW.trod_int hi h1
 refine ⟨(x,z),?_,?_⟩
 ·have:=congrArg (·[0]?) e0
  simpa [List.getElem?_take,List.getElem?_drop] using this
 ·have:=congrArg (·[0]?) e1
  simpa [List.getElem?_take,List.getElem?_drop] using this
end
def encSt (x:Qm.St):List Value:=[.int .i64 x.1,.int .i64 x.2]
theorem list2 {cs:List Value} (h:cs.length=2):∃ a b,cs=[a,b]:=by match cs,h with | [a,b],_=>exact ⟨a,b,rfl⟩
theorem list12 {cs:List Value} (h:cs.length=12):∃ a0 a1 a2 a3 a4 a5 a6 a7 a8 a9 a10 a11,cs=[a0,a1,a2,a3,a4,a5,a6,a7,a8,a9,a10,a11]:=by
 match cs,h with
 | [a0,a1,a2,a3,a4,a5,a6,a7,a8,a9,a10,a11],_=>exact ⟨a0,a1,a2,a3,a4,a5,a6,a7,a8,a9,a10,a11,rfl⟩
section
variable {H:Type} {enc:TypeId × Value→H} {W:World} {held:Bool}
theorem el_st (n:Nat) (cs:List Value) (y:DataW H × List MemPlace) (hl:cs.length=2) (h:DataW.trod enc Tryz.prog W 0 (fun _=>true) held n 35 cs=some y):∃ x,cs=encSt x:=by
 obtain ⟨x,h0,h1⟩:=ints_two Tryz.underlying35 Tryz.underlying3 rfl rfl rfl rfl (by kernel_rfl) n cs y h
 obtain ⟨a,b,rfl⟩:=list2 hl
 simp at h0 h1
 exact ⟨x,by rw [h0,h1]; rfl⟩
theorem trod_field {P:Program} {W:World} {fs:Array Field} {n:Nat} {cs:List Value} {xs:List (DataW H × List MemPlace)}
  (hf:∀ (i:Nat) (f:Field),fs[i]?=some f→DataW.trod enc P W 0 (fun _=>true) held n f.type ((cs.drop f.offset).take (P.cellsOf f.type))=xs[i]?)
  (i:Nat) (f:Field) (T:TypeId) (off len:Nat) (us:List Value) (y:DataW H × List MemPlace) (hi:fs[i]?=some f) (ht:f.type=T) (ho:f.offset=off) (hc:P.cellsOf T=len) (hu:(cs.drop off).take len=us) (hy:xs[i]?=some y) :
  DataW.trod enc P W 0 (fun _=>true) held n T us=some y:=by
 have h:=hf i f hi
 rw [ht,ho,hc,hu,hy] at h
 exact h
theorem el_val (n:Nat) (a b c:Value) (y:DataW H × List MemPlace) (h:DataW.trod enc Tryz.prog W 0 (fun _=>true) held n 38 [a,b,c]=some y):∃ (k m:Int) (t:ByteArray),a=.int .i64 k∧b=.int .i64 m∧c=.string t:=by
 obtain ⟨ys,n,-,-,-,hyl,hf⟩:=DataW.trod_struct Tryz.underlying38 h
 have c1:Tryz.prog.cellsOf 3=1:=by kernel_rfl
 have c2:Tryz.prog.cellsOf 9=1:=by kernel_rfl
 have get:∀ i,i<3→∃ y,ys[i]?=some y:=fun i hi=>⟨_,List.getElem?_eq_getElem (by simp at hyl; omega)⟩
 obtain ⟨y0,e0⟩:=get 0 (by omega)
 obtain ⟨y1,e1⟩:=get 1 (by omega)
 obtain ⟨y2,e2⟩:=get 2 (by omega)
 have h0:=trod_field hf 0 _ 3 0 _ [a] _ rfl rfl rfl c1 rfl e0
 have h1:=trod_field hf 1 _ 3 1 _ [b] _ rfl rfl rfl c1 rfl e1
 have h2:=trod_field hf 2 _ 9 2 _ [c] _ rfl rfl rfl c2 rfl e2
 obtain ⟨k,f0,-,-⟩:=DataW.trod_int Tryz.underlying3 h0
 obtain ⟨m,f1,-,-⟩:=DataW.trod_int Tryz.underlying3 h1
 obtain ⟨t,f2,-,-⟩:=DataW.trod_string Tryz.underlying9 h2
 simp only [List.cons.injEq,and_true] at f0 f1 f2
 exact ⟨k,m,t,f0,f1,f2⟩
theorem el_op (n:Nat) (cs:List Value) (y:DataW H × List MemPlace) (hl:cs.length=12) (h:DataW.trod enc Tryz.prog W 0 (fun _=>true) held n 40 cs=some y):∃ x q c,cs=opL x q c∧Pa W x q c:=by
 obtain ⟨a0,a1,a2,a3,a4,a5,a6,a7,a8,a9,a10,a11,rfl⟩:=list12 hl
 obtain ⟨ys,n,-,-,-,hyl,hf⟩:=DataW.trod_struct Tryz.underlying40 h
 have c1:Tryz.prog.cellsOf 3=1:=by kernel_rfl
 have c2:Tryz.prog.cellsOf 9=1:=by kernel_rfl
 have c3:Tryz.prog.cellsOf 35=2:=by kernel_rfl
 have c4:Tryz.prog.cellsOf 36=1:=by kernel_rfl
 have c5:Tryz.prog.cellsOf 38=3:=by kernel_rfl
 have c6:Tryz.prog.cellsOf 4=1:=by kernel_rfl
 have get:∀ i,i<8→∃ y,ys[i]?=some y:=fun i hi=>⟨_,List.getElem?_eq_getElem (by simp at hyl; omega)⟩
 obtain ⟨y0,e0⟩:=get 0 (by omega)
 obtain ⟨y1,e1⟩:=get 1 (by omega)
 obtain ⟨y2,e2⟩:=get 2 (by omega)
 obtain ⟨y3,e3⟩:=get 3 (by omega)
 obtain ⟨y4,e4⟩:=get 4 (by omega)
 obtain ⟨y5,e5⟩:=get 5 (by omega)
 obtain ⟨y6,e6⟩:=get 6 (by omega)
 obtain ⟨y7,e7⟩:=get 7 (by omega)
 have h0:=trod_field hf 0 _ 3 0 _ [a0] _ rfl rfl rfl c1 rfl e0
 have h1:=trod_field hf 1 _ 35 1 _ [a1,a2] _ rfl rfl rfl c3 rfl e1
 have h2:=trod_field hf 2 _ 35 3 _ [a3,a4] _ rfl rfl rfl c3 rfl e2
 have h3:=trod_field hf 3 _ 9 5 _ [a5] _ rfl rfl rfl c2 rfl e3
 have h4:=trod_field hf 4 _ 36 6 _ [a6] _ rfl rfl rfl c4 rfl e4
 have h5:=trod_field hf 5 _ 3 7 _ [a7] _ rfl rfl rfl c1 rfl e5
 have h6:=trod_field hf 6 _ 38 8 _ [a8,a9,a10] _ rfl rfl rfl c5 rfl e6
 have h7:=trod_field hf 7 _ 4 11 _ [a11] _ rfl rfl rfl c6 rfl e7
 obtain ⟨k,f0,-,-⟩:=DataW.trod_int Tryz.underlying3 h0
 obtain ⟨⟨nt,nr⟩,f1⟩:=el_st _ _ _ rfl h1
 obtain ⟨⟨rt,rr⟩,f2⟩:=el_st _ _ _ rfl h2
 obtain ⟨key,f3,-,-⟩:=DataW.trod_string Tryz.underlying9 h3
 obtain ⟨q,c,l,f4,g1,g2,g3,-⟩:=row_of_trod 2 (by decide) encSt (fun _=>rfl) Tryz.underlying36 (by kernel_rfl) el_st h4
 obtain ⟨p,f5,-,-⟩:=DataW.trod_int Tryz.underlying3 h5
 obtain ⟨vk,vn,vt,f6,f7,f8⟩:=el_val _ _ _ _ _ h6
 obtain ⟨on,f9,-⟩:=DataW.trod_bool Tryz.underlying4 h7
 simp only [encSt,List.cons.injEq,and_true] at f0 f1 f2 f3 f4 f5 f9
 obtain ⟨rfl,rfl⟩:=f1
 obtain ⟨rfl,rfl⟩:=f2
 subst f0 f3 f4 f5 f6 f7 f8 f9
 exact ⟨⟨k,nt,nr,rt,rr,key,l,p,vk,vn,vt,on⟩,q,c,rfl,⟨g1,g3,g2⟩⟩
end
open Go.ChangeShapes Go.WideShapes Go.ChangeAt Go.RowKit Go.Deep Go.Joins
section
variable {H:Type} {enc:TypeId × Value→H} {W:World} {held:Bool}
def EnW (W:World):Type:={ e:En // Pa W e.x e.q e.c }
instance:Inhabited (EnW W):=⟨⟨⟨Opp.zero,none,0⟩,Pa.none _ _ rfl⟩⟩
def encE (e:EnW W):List Value:=opL e.1.x e.1.q e.1.c
theorem el_en (n:Nat) (cs:List Value) (y:DataW H × List MemPlace) (hl:cs.length=12) (h:DataW.trod enc Tryz.prog W 0 (fun _=>true) held n 40 cs=some y):∃ e:EnW W,cs=encE e:=by
 obtain ⟨x,q,c,h1,h2⟩:=el_op n cs y hl h
 exact ⟨⟨⟨x,q,c⟩,h2⟩,h1⟩
theorem enc_cells (l:List (EnW W)):l.flatMap encE=enCells (l.map (·.1)):=by
 induction l with
 | nil=>rfl
 | cons a l ih=>rw [List.flatMap_cons,ih,List.map_cons]; rfl
theorem list4 {cs:List Value} (h:cs.length=4):∃ a0 a1 a2 a3,cs=[a0,a1,a2,a3]:=by
 match cs,h with
 | [a0,a1,a2,a3],_=>exact ⟨a0,a1,a2,a3,rfl⟩
theorem opened_batch {r:Reach} {b0:Nat} {v:Value} {d:DataW H} {p:List MemPlace} (hv:Value.okWide Tryz.prog W r b0 85 v) (h:DataW.Trod enc Tryz.prog W 0 (fun _=>true) held 85 v d p) :
  ∃ x q c,v=.agg (btA x q c)∧Bops W x q c:=by
 obtain ⟨cs,rfl,hsz⟩:=okWide_struct Tryz.underlying85 hv
 have h3:cs.size=4:=hsz.trans (by kernel_rfl)
 obtain ⟨fuel,hf0⟩:=h
 replace hf0:DataW.trod enc Tryz.prog W 0 (fun _=>true) held fuel 85 cs.toList=some (d,p):=hf0
 obtain ⟨a0,a1,a2,a3,e⟩:=list4 (cs:=cs.toList) (by simpa using h3)
 rw [e] at hf0
 obtain ⟨ys,n,-,-,-,hyl,hf⟩:=DataW.trod_struct Tryz.underlying85 hf0
 have c1:Tryz.prog.cellsOf 3=1:=by kernel_rfl
 have c4:Tryz.prog.cellsOf 83=1:=by kernel_rfl
 have get:∀ i,i<4→∃ y,ys[i]?=some y:=fun i hi=>⟨_,List.getElem?_eq_getElem (by simp at hyl; omega)⟩
 obtain ⟨y0,e0⟩:=get 0 (by omega)
 obtain ⟨y1,e1⟩:=get 1 (by omega)
 obtain ⟨y2,e2⟩:=get 2 (by omega)
 obtain ⟨y3,e3⟩:=get 3 (by omega)
 have h0:=trod_field hf 0 _ 3 0 _ [a0] _ rfl rfl rfl c1 rfl e0
 have h1:=trod_field hf 1 _ 3 1 _ [a1] _ rfl rfl rfl c1 rfl e1
 have h2:=trod_field hf 2 _ 3 2 _ [a2] _ rfl rfl rfl c1 rfl e2
 have h3:=trod_field hf 3 _ 83 3 _ [a3] _ rfl rfl rfl c4 rfl e3
 obtain ⟨r',f0,-,-⟩:=DataW.trod_int Tryz.underlying3 h0
 obtain ⟨s',f1,-,-⟩:=DataW.trod_int Tryz.underlying3 h1
 obtain ⟨t',f2,-,-⟩:=DataW.trod_int Tryz.underlying3 h2
 obtain ⟨q,c,l,f3,g1,g2,g3,-⟩:=row_of_trod 12 (by decide) (encE (W:=W)) (fun _=>rfl) Tryz.underlying83 (by kernel_rfl) el_en h3
 simp only [List.cons.injEq,and_true] at f0 f1 f2 f3
 subst f0 f1 f2 f3
 rw [enc_cells] at g1
 refine ⟨⟨r',s',t',(l.map (·.1)).map (·.x)⟩,q,c,?_,⟨l.map (·.1),⟨rfl,g1,?_,g3,by simpa using g2⟩⟩⟩
 ·have:cs=(btA ⟨r',s',t',(l.map (·.1)).map (·.x)⟩ q c):=by
   apply Array.toList_inj.1
   rw [e]
   unfold btA
   simp
  rw [this]
 ·intro e he
  obtain ⟨z,-,rfl⟩:=List.mem_map.1 he
  exact z.2
end
open Go.ChangeShapes Go.WideShapes Go.ChangeAt Go.RowKit
section
variable {H:Type} {enc:TypeId × Value→H} {W:World} {held:Bool}
end
open Go.ChangeShapes Go.WideShapes Go.ChangeAt Go.RowKit Go.Deep Go.Joins
section
variable {H:Type} {enc:TypeId × Value→H} {W:World} {held:Bool}
def BeW (W:World):Type:={ e:Be // Bops W e.x e.p e.c }
instance:Inhabited (BeW W):=⟨⟨⟨Bat.zero,none,0⟩,⟨[],Os.empty W⟩⟩⟩
def encBe (e:BeW W):List Value:=beL e.1
theorem encBe_cells (l:List (BeW W)):l.flatMap encBe=beCells (l.map (·.1)):=by
 induction l with
 | nil=>rfl
 | cons a l ih=>rw [List.flatMap_cons,ih,List.map_cons]; rfl
theorem el_bt (n:Nat) (cs:List Value) (y:DataW H × List MemPlace) (hl:cs.length=4) (h:DataW.trod enc Tryz.prog W 0 (fun _=>true) held n 85 cs=some y):∃ e:BeW W,cs=encBe e:=by
 obtain ⟨a0,a1,a2,a3,rfl⟩:=list4 hl
 obtain ⟨ys,n,-,-,-,hyl,hf⟩:=DataW.trod_struct Tryz.underlying85 h
 have c1:Tryz.prog.cellsOf 3=1:=by kernel_rfl
 have c4:Tryz.prog.cellsOf 83=1:=by kernel_rfl
 have get:∀ i,i<4→∃ y,ys[i]?=some y:=fun i hi=>⟨_,List.getElem?_eq_getElem (by simp at hyl; omega)⟩
 obtain ⟨y0,e0⟩:=get 0 (by omega)
 obtain ⟨y1,e1⟩:=get 1 (by omega)
 obtain ⟨y2,e2⟩:=get 2 (by omega)
 obtain ⟨y3,e3⟩:=get 3 (by omega)
 have h0:=trod_field hf 0 _ 3 0 _ [a0] _ rfl rfl rfl c1 rfl e0
 have h1:=trod_field hf 1 _ 3 1 _ [a1] _ rfl rfl rfl c1 rfl e1
 have h2:=trod_field hf 2 _ 3 2 _ [a2] _ rfl rfl rfl c1 rfl e2
 have h3:=trod_field hf 3 _ 83 3 _ [a3] _ rfl rfl rfl c4 rfl e3
 obtain ⟨r',f0,-,-⟩:=DataW.trod_int Tryz.underlying3 h0
 obtain ⟨s',f1,-,-⟩:=DataW.trod_int Tryz.underlying3 h1
 obtain ⟨t',f2,-,-⟩:=DataW.trod_int Tryz.underlying3 h2
 obtain ⟨q,c,l,f3,g1,g2,g3,-⟩:=row_of_trod 12 (by decide) (encE (W:=W)) (fun _=>rfl) Tryz.underlying83 (by kernel_rfl) el_en h3
 simp only [List.cons.injEq,and_true] at f0 f1 f2 f3
 subst f0 f1 f2 f3
 rw [enc_cells] at g1
 refine ⟨⟨⟨⟨r',s',t',(l.map (·.1)).map (·.x)⟩,q,c⟩,⟨l.map (·.1),⟨rfl,g1,?_,g3,by simpa using g2⟩⟩⟩,?_⟩
 ·intro e he
  obtain ⟨z,-,rfl⟩:=List.mem_map.1 he
  exact z.2
 ·unfold encBe beL
  simp
theorem opened_batches {a:Option Addr} {len cap:Nat} {d:DataW H} {p:List MemPlace} (h:DataW.Trod enc Tryz.prog W 0 (fun _=>true) held 72 (Value.slice a len cap) d p) :
  ∃ l:List Be,l.length=len∧Rd W a (beCells l)∧len≤cap∧(a=none→cap=0)∧∀ e,e ∈ l→Bops W e.x e.p e.c:=by
 obtain ⟨fuel,hf⟩:=h
 obtain ⟨a',cap',l,hcs,h1,h2,h3,-⟩:=row_of_trod 4 (by decide) (encBe (W:=W)) (fun _=>rfl) Tryz.underlying72 (by kernel_rfl) el_bt hf
 simp [Value.cells] at hcs
 obtain ⟨rfl,rfl,rfl⟩:=hcs
 rw [encBe_cells] at h1
 refine ⟨l.map (·.1),by simp,h1,h2,h3,fun e he=>?_⟩
 obtain ⟨z,-,rfl⟩:=List.mem_map.1 he
 exact z.2
end
end Go.Proofs.YthfhefdfehlbkaaGreat
