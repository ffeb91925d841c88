/-
  AN ARGUMENT THAT IS A VECTOR, OPENED.
  No conditions.
  FROM A LAW's WALK TO ITS STATEMENT: an argument that is a list of batches.
  No conditions.
-/
import Derived.Test.YtfgnmnkihbgjnaaGreatHD
import Derived.Test.YtfgnmnkihbgjnaaGreatGJ
import Derived.Lib.SmallJoins
import Derived.Test.YtfgnmnkihbgjnaaGreatGO
set_option maxRecDepth 100000
set_option maxHeartbeats 1000000
namespace Go.Proofs.YtfgnmnkihbgjnaaGreat
open Go.ChangeShapes Go.WideShapes Go.ChangeAt Go.RowKit
section
variable {H:Type} {enc:TypeId × Value→H} {W:World} {held:Bool}
theorem opened_vec {r:Reach} {b0:Nat} {v:Value} {d:DataW H} {p:List MemPlace} (hv:Value.okWide Tryz.prog W r b0 24 v) (h:DataW.Trod enc Tryz.prog W 0 (fun _=>true) held 24 v d p) :
  ∃ a:Nat→Int,v=.agg (vecA a):=by
 simp only [Value.okWide,vtR.und] at hv
 obtain ⟨cs,rfl,hsz,-⟩:=hv
 have h16:cs.size=16:=hsz.trans (by kernel_rfl)
 obtain ⟨fuel,hf⟩:=h
 obtain ⟨xs,m,-,-,-,hxl,hg⟩:=DataW.trod_array vtR.und hf
 refine ⟨fun i=>match cs[i]? with | some (.int _ n)=>n | _=>0,?_⟩
 congr 1
 apply Array.ext_getElem?
 intro i
 by_cases hi:i<16
 ·rw [vecA_get _ i hi]
  have h1:=hg i hi
  rw [show Tryz.prog.cellsOf 3=1 from by kernel_rfl,Nat.mul_one] at h1
  have hx:xs[i]?=some xs[i]:=List.getElem?_eq_getElem (by omega)
  rw [hx] at h1
  obtain ⟨n,e,-,-⟩:=DataW.trod_int i_int h1
  have e2:=congrArg (·[0]?) e
  have e3:cs[i]?=some (.int .i64 n):=by simpa [List.getElem?_take,List.getElem?_drop,Value.cells] using e2
  rw [e3]
 ·rw [Array.getElem?_eq_none (by omega),Array.getElem?_eq_none (by rw [vecA_size]; omega)]
end
open Go.ChangeShapes Go.WideShapes Go.ChangeAt Go.RowKit Go.Deep Go.Joins
section
variable {H:Type} {enc:TypeId × Value→H} {W:World} {held:Bool}
def BeW (W:World):Type:={ e:Be // Bops W e.x e.p e.c }
instance:Inhabited (BeW W):=⟨⟨⟨Bat.zero,none,0⟩,⟨[],Os.empty W⟩⟩⟩
def encBe (e:BeW W):List Value:=beL e.1
theorem encBe_cells (l:List (BeW W)):l.flatMap encBe=beCells (l.map (·.1)):=by
 induction l with
 | nil=>rfl
 | cons a l ih=>rw [List.flatMap_cons,ih,List.map_cons]; rfl
theorem el_bt (n:Nat) (cs:List Value) (y:DataW H × List MemPlace) (hl:cs.length=4) (h:DataW.trod enc Tryz.prog W 0 (fun _=>true) held n 43 cs=some y):∃ e:BeW W,cs=encBe e:=by
 obtain ⟨a0,a1,a2,a3,rfl⟩:=list4 hl
 obtain ⟨ys,n,-,-,-,hyl,hf⟩:=DataW.trod_struct Tryz.underlying43 h
 have c1:Tryz.prog.cellsOf 3=1:=by kernel_rfl
 have c4:Tryz.prog.cellsOf 41=1:=by kernel_rfl
 have get:∀ i,i<4→∃ y,ys[i]?=some y:=fun i hi=>⟨_,List.getElem?_eq_getElem (by simp at hyl; omega)⟩
 obtain ⟨y0,e0⟩:=get 0 (by omega)
 obtain ⟨y1,e1⟩:=get 1 (by omega)
 obtain ⟨y2,e2⟩:=get 2 (by omega)
 obtain ⟨y3,e3⟩:=get 3 (by omega)
 have h0:=trod_field hf 0 _ 3 0 _ [a0] _ rfl rfl rfl c1 rfl e0
 have h1:=trod_field hf 1 _ 3 1 _ [a1] _ rfl rfl rfl c1 rfl e1
 have h2:=trod_field hf 2 _ 3 2 _ [a2] _ rfl rfl rfl c1 rfl e2
 have h3:=trod_field hf 3 _ 41 3 _ [a3] _ rfl rfl rfl c4 rfl e3
 obtain ⟨r',f0,-,-⟩:=DataW.trod_int Tryz.underlying3 h0
 obtain ⟨s',f1,-,-⟩:=DataW.trod_int Tryz.underlying3 h1
 obtain ⟨t',f2,-,-⟩:=DataW.trod_int Tryz.underlying3 h2
 obtain ⟨q,c,l,f3,g1,g2,g3,-⟩:=row_of_trod 12 (by decide) (encE (W:=W)) (fun _=>rfl) Tryz.underlying41 (by kernel_rfl) el_en h3
 simp only [List.cons.injEq,and_true] at f0 f1 f2 f3
 subst f0 f1 f2 f3
 rw [enc_cells] at g1
 refine ⟨⟨⟨⟨r',s',t',(l.map (·.1)).map (·.x)⟩,q,c⟩,⟨l.map (·.1),⟨rfl,g1,?_,g3,by simpa using g2⟩⟩⟩,?_⟩
 ·intro e he
  obtain ⟨z,-,rfl⟩:=List.mem_map.1 he
  exact z.2
 ·unfold encBe beL
  simp
theorem opened_batches {a:Option Addr} {len cap:Nat} {d:DataW H} {p:List MemPlace} (h:DataW.Trod enc Tryz.prog W 0 (fun _=>true) held 22 (Value.slice a len cap) d p) :
  ∃ l:List Be,l.length=len∧Rd W a (beCells l)∧len≤cap∧(a=none→cap=0)∧∀ e,e ∈ l→Bops W e.x e.p e.c:=by
 obtain ⟨fuel,hf⟩:=h
 obtain ⟨a',cap',l,hcs,h1,h2,h3,-⟩:=row_of_trod 4 (by decide) (encBe (W:=W)) (fun _=>rfl) Tryz.underlying22 (by kernel_rfl) el_bt hf
 simp [Value.cells] at hcs
 obtain ⟨rfl,rfl,rfl⟩:=hcs
 rw [encBe_cells] at h1
 refine ⟨l.map (·.1),by simp,h1,h2,h3,fun e he=>?_⟩
 obtain ⟨z,-,rfl⟩:=List.mem_map.1 he
 exact z.2
end
end Go.Proofs.YtfgnmnkihbgjnaaGreat
