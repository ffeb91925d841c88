/-
  Add: a log's box ('Lo'), what Add carries ('AdI'), what it leaves ('Added').
  No conditions but sizes.
  LOGS, PLAINLY: each replica's batches are Seqs 1 and on, their times rise; what Add adds.
  No conditions.
-/
import Derived.Test.YthfhefdfehlbkaaGreatSh
import Derived.Test.YthfhefdfehlbkaaGreatK08
import Derived.Deep.DeepCutAuto
import Derived.Test.YthfhefdfehlbkaaGreatK07
import Derived.Test.YthfhefdfehlbkaaGreatK09
set_option maxRecDepth 100000
set_option maxHeartbeats 32000000
namespace Go.Proofs.YthfhefdfehlbkaaGreat
open Go.RowKit
theorem ladd_no (v:Value) (x:Bat) (p:Option Addr) (c:Nat) (w:World) (h:NoL w v):Calls Tryz.prog 118 #[v,.agg (btA x p c)] w fun e w'=>e=.returned (noB 1)∧Below w.heap.size w w':=by
 have hb:=(Below.refl w.heap.size w).alloc (Nat.le_refl _) (.cells (btA x p c) 81)
 have HO:=Hi (lours_no v _ (h.kept hb))
 have HB:=Hi hb
 clear h hb
 go_enter Tryz.func118,Tryz.ntmps118
 go_wp2_with fail
 refine HO.out.mono ?_
 rintro e w1 ⟨rfl,rfl⟩
 go_wp2
 go_ret2
 exact ⟨rfl,HB.out⟩
structure AdI (l S M:Nat) (m:Sm) (F:Nat→Prop) (x:Bat) (p:Option Addr) (c:Nat) (w0:World) (X a b:Nat) (w:World):Prop where
 lo:Lo w l S M m F
 bx:BtAt w X x p c
 pa:AgAt w a #[.int .i64 x.r,.int .i64 x.s]
 pb:AgAt w b #[.int .i64 x.r,.int .i64 (((m.el x.r.toNat).length:Int)+1)]
 bo:Bops w x p c
 hX:w0.heap.size≤X
 ha:w0.heap.size≤a
 hb:w0.heap.size≤b
 below:Below w0.heap.size w0 w
 lt:∀ k,F k→k<w0.heap.size
 lw:l<w0.heap.size
theorem AdI.kept {l S M:Nat} {m:Sm} {F:Nat→Prop} {x:Bat} {p:Option Addr} {c:Nat} {w0:World} {X a b:Nat} {w w':World} (h:AdI l S M m F x p c w0 X a b w) (hb:Below w.heap.size w w'):AdI l S M m F x p c w0 X a b w' :=
 ⟨h.lo.kept hb,AgAt.kept h.bx hb,h.pa.kept hb,h.pb.kept hb,h.bo.kept hb,h.hX,h.ha,h.hb,h.below.trans (hb.mono h.below.size),h.lt,h.lw⟩
theorem AdI.nX {l S M:Nat} {m:Sm} {F:Nat→Prop} {x:Bat} {p:Option Addr} {c:Nat} {w0:World} {X a b:Nat} {w:World} (h:AdI l S M m F x p c w0 X a b w):¬ F X:=fun hx=>by
 have h1:=h.lt X hx
 have h2:=h.hX
 omega
theorem AdI.ne {l S M:Nat} {m:Sm} {F:Nat→Prop} {x:Bat} {p:Option Addr} {c:Nat} {w0:World} {X a b:Nat} {w:World} (h:AdI l S M m F x p c w0 X a b w):a≠M∧X≠M∧l≠M:=by
 have h1:=h.lt M h.lo.st.fM
 have h2:=h.ha
 have h3:=h.hX
 exact ⟨by omega,by omega,fun e=>h.lo.nl (by rw [e]; exact h.lo.st.fM)⟩
def Added (l S M:Nat) (F:Nat→Prop) (L:Lg) (x:Bat) (w:World) (e:Ending) (w':World):Prop :=
 ∃ (m:Sm) (p:Option Addr) (c n1:Nat) (lo:List Be),e=.returned (.tuple #[.slice p lo.length c,.int .i64 (addL L x).2.2])∧Lo w' l S M m (fun k=>F k∨(w.heap.size≤k∧k<n1))∧m.lg=(addL L x).1 ∧
  lo.map (·.x)=(addL L x).2.1∧URow n1 w' p c lo∧w.heap.size≤n1∧n1≤w'.heap.size∧Turns F w w'
theorem Added.no {l S M:Nat} {F:Nat→Prop} {m:Sm} {x:Bat} {w w':World} {n:Int} (h:Lo w' l S M m F) (hb:Below w.heap.size w w') (ha:addL m.lg x=(m.lg,[],n)):Added l S M F m.lg x w (.returned (noB n)) w':=by
 refine ⟨m,none,0,w.heap.size,[],?_,?_,by rw [ha],by rw [ha]; rfl,URow.nil _ _,Nat.le_refl _,hb.size,Turns.of_below hb⟩
 ·rw [ha]; rfl
 ·exact h.more (fun _ hk=>Or.inl hk) (fun k hk=>hk.elim (fun h1=>h.st.lt k h1) fun h1=>by omega) fun hk=>hk.elim h.nl fun h1=>by omega
theorem Added.ok {l S M:Nat} {F G:Nat→Prop} {L:Lg} {m:Sm} {x:Bat} {w wt w':World} {p:Option Addr} {c n:Nat} {lo:List Be} (hs:St wt S M m G) (hok:LgOk m.lg) (hlg:AgAt wt l #[.pointer (some ⟨S,0,none⟩)]) (hG:∀ k,G k→F k∨w.heap.size≤k)
  (ha:addL L x=(m.lg,(m.lg.row x.r.toNat).drop (x.s.toNat - 1),0)) (h1:lo.map (·.x)=(m.lg.row x.r.toNat).drop (x.s.toNat - 1)) (h2:URow wt.heap.size w' p c lo) (h3:Below wt.heap.size wt w') (ht:Turns F w wt) (hn:lo.length=n) (hnF:¬ F l) (hlw:l<w.heap.size) (hFG:∀ k,F k→G k) :
  Added l S M F L x w (.returned (.tuple #[.slice p n c,.int .i64 0])) w':=by
 have hz:=ht.size
 refine ⟨m,p,c,wt.heap.size,lo,by rw [ha,hn],⟨(hs.kept h3).more (fun k hk=>?_) (fun k hk=>?_),hok,AgAt.kept hlg h3,fun hk=>?_⟩,by rw [ha],by rw [ha,h1],h2,hz,h3.size,ht.trans (Turns.of_below h3)⟩
 ·rcases hG k hk with h | h
  ·exact Or.inl h
  ·exact Or.inr ⟨h,hs.lt k hk⟩
 ·have:=h3.size
  rcases hk with hk | hk
  ·have:=hs.lt k (hFG k hk); omega
  ·omega
 ·rcases hk with hk | hk
  ·exact hnF hk
  ·omega
theorem AdI.gap {l S M:Nat} {m:Sm} {F:Nat→Prop} {x:Bat} {p:Option Addr} {c:Nat} {w0:World} {X a b:Nat} {w w6:World} {p6:Option Addr} {c6:Nat} (h:AdI l S M m F x p c w0 X a b w) (ha:addL m.lg x=({ m.lg with wait:=m.lg.wait ++ [x] },[],33)) (hx:OkB x) (h64:m.we.length<64)
  (hs:St w6 S M { m with we:=m.we ++ [⟨x,p6,c6⟩] } (fun k=>F k∨(w.heap.size≤k∧k<w6.heap.size))) (ht:Turns (fun k=>k=M) w w6):Added l S M F m.lg x w0 (.returned (noB 33)) w6:=by
 have hz:=ht.size
 have hz0:=h.below.size
 have hlw:=AgAt.lt h.lo.lg
 have hlg:Sm.lg { m with we:=m.we ++ [⟨x,p6,c6⟩] }={ m.lg with wait:=m.lg.wait ++ [x] }:=by simp [Sm.lg]
 have hok:LgOk (Sm.lg { m with we:=m.we ++ [⟨x,p6,c6⟩] }):=by
  rw [hlg]
  refine ⟨h.lo.ok.right,fun y hy=>?_,h.lo.ok.tot,?_⟩
  ·rcases List.mem_append.1 hy with hy | hy
   ·exact h.lo.ok.wright y hy
   ·obtain rfl:y=x:=by simpa using hy
    exact hx
  ·have:m.lg.wait.length=m.we.length:=by simp [Sm.lg]
   simp only [List.length_append,List.length_cons,List.length_nil]
   omega
 refine ⟨_,none,0,w6.heap.size,[],by rw [ha]; rfl,⟨hs.more (fun k hk=>hk.imp id fun h=>⟨by omega,h.2⟩) (fun k hk=>?_),hok,h.lo.lg.block (ht.block l hlw h.ne.2.2),fun hk=>?_⟩,by rw [ha,hlg],by rw [ha]; rfl,URow.nil _ _,by omega,Nat.le_refl _,(Turns.of_below h.below).trans (ht.mono fun k _ hk=>Or.inl (by rw [hk]; exact h.lo.st.fM))⟩
 ·rcases hk with hk | hk
  ·exact hs.lt k (Or.inl hk)
  ·exact hk.2
 ·rcases hk with hk | hk
  ·exact h.lo.nl hk
  ·exact absurd h.lw (by omega)
theorem addL_bad {L:Lg} {x:Bat} (h:rightT x=false):addL L x=(L,[],1):=by unfold addL; rw [if_pos h]
theorem addL_there {L:Lg} {x:Bat} (h:rightT x=true) (k:L.wait.any (atPl x.r x.s)=true∨x.s<nextS L x.r.toNat):addL L x=(L,[],4):=by unfold addL; rw [if_neg (by rw [h]; simp),if_pos k]
theorem addL_fullw {L:Lg} {x:Bat} (h:rightT x=true) (k:L.wait.any (atPl x.r x.s)=false) (k2:nextS L x.r.toNat<x.s) (k3:64≤L.wait.length):addL L x=(L,[],7):=by
 unfold addL; rw [if_neg (by rw [h]; simp),if_neg (by rw [k]; simp; omega),if_pos (by omega),if_pos k3]
theorem addL_gap {L:Lg} {x:Bat} (h:rightT x=true) (k:L.wait.any (atPl x.r x.s)=false) (k2:nextS L x.r.toNat<x.s) (k3:¬ 64≤L.wait.length):addL L x=({ L with wait:=L.wait ++ [x] },[],33):=by
 unfold addL; rw [if_neg (by rw [h]; simp),if_neg (by rw [k]; simp; omega),if_pos (by omega),if_neg k3]
theorem addL_full {L:Lg} {x:Bat} (h:rightT x=true) (k:L.wait.any (atPl x.r x.s)=false) (k2:x.s=nextS L x.r.toNat) (k3:512≤totL L):addL L x=(L,[],7):=by
 unfold addL; rw [if_neg (by rw [h]; simp),if_neg (by rw [k]; simp; omega),if_neg (by omega),if_pos k3]
theorem addL_form {L:Lg} {x:Bat} (h:rightT x=true) (k:L.wait.any (atPl x.r x.s)=false) (k2:x.s=nextS L x.r.toNat) (k3:¬ 512≤totL L) (k4:fitsL L x=false):addL L x=(L,[],21):=by
 unfold addL; rw [if_neg (by rw [h]; simp),if_neg (by rw [k]; simp; omega),if_neg (by omega),if_neg k3,if_pos k4]
theorem addL_ok {L:Lg} {x:Bat} (h:rightT x=true) (k:L.wait.any (atPl x.r x.s)=false) (k2:x.s=nextS L x.r.toNat) (k3:¬ 512≤totL L) (k4:fitsL L x=true) :
  addL L x=(followL (L.wait.length+1) (enterL L x) x.r.toNat,((followL (L.wait.length+1) (enterL L x) x.r.toNat).row x.r.toNat).drop (x.s.toNat - 1),0):=by
 unfold addL; rw [if_neg (by rw [h]; simp),if_neg (by rw [k]; simp; omega),if_neg (by omega),if_neg k3,if_neg (by rw [k4]; simp)]
theorem followL_len:∀ (n:Nat) (L:Lg) (r k:Nat),(L.row k).length≤((followL n L r).row k).length
 | 0,_,_,_=>Nat.le_refl _
 | n+1,L,r,k=>by
  unfold followL
  split
  ·exact Nat.le_refl _
  ·split
   ·exact Nat.le_refl _
   ·split
    ·refine Nat.le_trans ?_ (followL_len n _ r k)
     unfold enterL dropL
     dsimp only
     split <;> simp
    ·exact Nat.le_refl _
theorem wait_full {S M:Nat} {m:Sm} {F:Nat→Prop} (x:Bat) (p:Option Addr) (c:Nat) (w:World) (h:St w S M m F) (hl:64≤m.we.length) (hl2:m.we.length≤64) :
  Calls Tryz.prog 200 #[.pointer (some ⟨S,0,none⟩),plA x.r x.s,.agg (btA x p c)] w fun e w'=>e=.returned (.int .i64 7)∧Below w.heap.size w w':=by
 have h1:∀ (w:World) (o:Obj),Below w.heap.size w (w.alloc o):=fun w o=>(Below.refl _ _).alloc (Nat.le_refl _) _
 have hb:=(h1 w (.cells #[.int .i64 x.r,.int .i64 x.s] 281)).trans ((h1 (w.alloc (.cells #[.int .i64 x.r,.int .i64 x.s] 281)) (.cells (btA x p c) 81)).mono (by simp))
 have HB:=Hi hb
 have y16:=(h.kept hb).mcell
 have hln:=(h.kept hb).map.len 3
 have hd0:decide (64≤(m.we.length:Int))=true:=decide_eq_true (by omega)
 clear h hb h1
 go_enter Tryz.func200,Tryz.ntmps200
 go_wp2
 go_ret
 exact ⟨rfl,HB.out⟩
theorem ladd_any {l S M:Nat} {m:Sm} {F:Nat→Prop} (x:Bat) (p:Option Addr) (c:Nat) (w:World) (h:Lo w l S M m F) (hs:Szs x.ops) (hcp:CpSz x) (hbo:Bops w x p c) :
  Calls Tryz.prog 118 #[.pointer (some ⟨l,0,none⟩),.agg (btA x p c)] w (Added l S M F m.lg x w):=by
 have hb:=(Below.refl w.heap.size w).alloc (Nat.le_refl _) (.cells (btA x p c) 81)
 have hlt:=h.st.lt
 have HLW:=Hi (AgAt.lt h.lg)
 have HLO:=Hi (h.kept hb)
 have HBO:=Hi (hbo.kept hb)
 have HX:=Hi (AgAt.new w (btA x p c) 81)
 have HLT:=Hi hlt
 have HOU:=Hi (lours_yes HLO.out.cell)
 have HRI:=Hi (bright_any x p c _ hs HBO.out)
 have HB:=Hi hb
 clear h hb hlt hbo
 go_enter Tryz.func118,Tryz.ntmps118
 cases hr:rightT x with
 | false =>
  rw [hr] at HRI
  have HE:=Hi (fun W (hW:Below (w.alloc (.cells (btA x p c) 81)).heap.size (w.alloc (.cells (btA x p c) 81)) W)=>Added.no (x:=x) (n:=1) (HLO.out.kept hW) (HB.out.trans (hW.mono HB.out.size)) (by unfold addL; rw [if_pos hr]))
  clear hr
  go_wp2_with fail
  refine HOU.out.mono ?_
  rintro e w1 ⟨rfl,rfl⟩
  go_wp2_with (refine wpList_load_ag btP (by kernel_rfl) _ rfl _ rfl (A:=btA x p c) rfl HX.out ?_)
  refine HRI.out.mono ?_
  rintro e w2 ⟨rfl,hb2⟩
  have HE2:=Hi (HE.out _ hb2)
  clear hb2
  go_wp2
  go_ret2
  exact HE2.out
 | true =>
  have HOK:=Hi (show OkB x from ⟨hr,hs,hcp⟩)
  rw [hr] at HRI
  clear hr
  go_wp2_with fail
  refine HOU.out.mono ?_
  rintro e w1 ⟨rfl,rfl⟩
  go_wp2_with (refine wpList_load_ag btP (by kernel_rfl) _ rfl _ rfl (A:=btA x p c) rfl HX.out ?_)
  refine HRI.out.mono ?_
  rintro e w1 ⟨rfl,hb2⟩
  have HX:=Hi (AgAt.kept HX.out hb2)
  have HB:=Hi (HB.out.trans (hb2.mono HB.out.size))
  have HLO:=Hi (HLO.out.kept hb2)
  have HBO:=Hi (HBO.out.kept hb2)
  have HLB:=Hi HLO.out.lg
  clear hb2 HRI HOU
  go_upto_region 3 with fail
  go_cut [6,7] (fun s6 s7 wx=>∃ a b:Nat,s6=.pointer (some ⟨a,0,none⟩)∧s7=.pointer (some ⟨b,0,none⟩)∧AdI l S M m F x p c w w.heap.size a b wx)
  case first =>
   have HW1:=Hi HB.out.size
   have HNX:=Hi (fun W (hW:Below w1.heap.size w1 W)=>next_any x.r.toNat W (HLO.out.kept hW).st (right_r HOK.out.right).1 (Sm.len HLO.out.ok (right_r HOK.out.right).1))
   rw [(right_r HOK.out.right).2] at HNX
   have HADI:=Hi (fun a b W (h1:AgAt W a #[.int .i64 x.r,.int .i64 x.s]) (h2:AgAt W b #[.int .i64 x.r,.int .i64 (((m.el x.r.toNat).length:Int)+1)]) (ha:w.heap.size≤a) (hb:w.heap.size≤b) (hW:Below w1.heap.size w1 W) =>
    (show AdI l S M m F x p c w w.heap.size a b W from ⟨HLO.out.kept hW,AgAt.kept HX.out hW,h1,h2,HBO.out.kept hW,Nat.le_refl _,ha,hb,HB.out.trans (hW.mono HW1.out),HLT.out,HLW.out⟩))
   refine wp_region_held_drew (S:=fun W=>Below w1.heap.size w1 W) (by kernel_rfl) (Below.refl _ _).drew (fun hS=>?_)
   generalize w1.drew=wd at *
   refine tX 0 rfl hS ?_
   refine tK 1 (v:=?_) rfl ?_ hS ?_
   rotate_left
   ·intro W hSW
    obtain ⟨x0,x1,x2,x3⟩:=BtAt.cells (AgAt.kept HX.out hSW)
    go_simp
    all_goals with_reducible rfl
   refine tX 2 rfl hS ?_
   refine tK 3 (v:=?_) rfl ?_ hS ?_
   rotate_left
   ·intro W hSW
    obtain ⟨x0,x1,x2,x3⟩:=BtAt.cells (AgAt.kept HX.out hSW)
    go_simp
    all_goals with_reducible rfl
   go_simp
   refine tX 4 rfl hS ?_
   refine tX 5 rfl hS ?_
   refine tX 6 rfl hS ?_
   refine tX 7 rfl hS ?_
   go_simp
   refine tK 8 (v:=?_) rfl ?_ hS ?_
   rotate_left
   ·intro W hSW
    have yl:=AgAt.cell (AgAt.kept HLB.out hSW) 0
    go_simp
    all_goals with_reducible rfl
   refine tX 9 rfl hS ?_
   refine tK 10 (v:=?_) rfl ?_ hS ?_
   rotate_left
   ·intro W hSW
    obtain ⟨x0,x1,x2,x3⟩:=BtAt.cells (AgAt.kept HX.out hSW)
    go_simp
    all_goals with_reducible rfl
   go_simp
   refine wpAnyH_ready (rs:=[11,12,13]) (by kernel_rfl) (by simp) ?_
   refine AllReadyH.cons rfl (fun K hK=>?_) (AllReadyH.cons rfl (fun K hK=>?_) (AllReadyH.cons rfl (fun K hK=>?_) AllReadyH.nil))
   ·go_simp
    go_wp2_with ((go_at_call 199; refine (HNX.out _ hS).mono ?_; rintro e wv11 ⟨rfl,hb⟩))
    refine hK.out _ _ (hS.trans (hb.mono hS.size)) (fun hS=>?_)
    clear hK K hb
    refine wpAnyH_ready (rs:=[12,13]) (by kernel_rfl) (by simp) ?_
    refine AllReadyH.cons rfl (fun K hK=>?_) (AllReadyH.cons rfl (fun K hK=>?_) AllReadyH.nil)
    ·go_simp
     have hb:=(Below.refl wv11.heap.size wv11).alloc (Nat.le_refl _) (.cells #[.int .i64 0,.int .i64 0] 281)
     have HG6:=Hi (show w1.heap.size≤wv11.heap.size from hS.size)
     have HA6:=Hi (AgAt.new wv11 #[.int .i64 0,.int .i64 0] 281)
     refine hK.out _ _ (hS.trans (hb.mono hS.size)) (fun hS=>?_)
     clear hK K hb
     generalize wv11.alloc (.cells #[.int .i64 0,.int .i64 0] 281)=wv11_12 at *
     refine rD 13 rfl (fun K hK=>?_)
     go_simp
     have hb:=(Below.refl wv11_12.heap.size wv11_12).alloc (Nat.le_refl _) (.cells #[.int .i64 0,.int .i64 0] 281)
     have HNE:=Hi (show wv11.heap.size≠wv11_12.heap.size from by have h1:=AgAt.lt HA6.out; omega)
     replace HA6:=Hi (AgAt.kept HA6.out hb)
     have HG7:=Hi (show w1.heap.size≤wv11_12.heap.size from hS.size)
     have HA7:=Hi (AgAt.new wv11_12 #[.int .i64 0,.int .i64 0] 281)
     refine hK.out _ _ (hS.trans (hb.mono hS.size)) (fun hS=>?_)
     clear hK K hb
     generalize wv11_12.alloc (.cells #[.int .i64 0,.int .i64 0] 281)=wv11_12_13 at *
     refine rD 14 rfl (fun K hK=>?_)
     refine step_of (by kernel_rfl) ?_
     refine wp_store_ag plT _ _ rfl _ rfl _ HA6.out (A:=#[.int .i64 x.r,.int .i64 x.s]) rfl rfl rfl (stA_one _ _) ?_
     intro wx hvx hko hsz hbn
     have HB6:=Hi hvx
     replace HA7:=Hi (AgAt.block HA7.out (hko _ (fun e=>HNE.out e.symm)))
     refine hK.out _ _ (hbn _ _ hS HG6.out) (fun hS=>?_)
     clear hK K hvx hko hsz hbn
     refine rD 15 rfl (fun K hK=>?_)
     refine step_of (by kernel_rfl) ?_
     refine wp_store_ag plT _ _ rfl _ rfl _ HA7.out (A:=#[.int .i64 x.r,.int .i64 (((m.el x.r.toNat).length:Int)+1)]) rfl rfl rfl (stA_one _ _) ?_
     intro wy hvy hko hsz hbn
     have HE:=Hi (HADI.out _ _ wy (AgAt.block HB6.out (hko _ HNE.out)) hvy (Nat.le_trans HW1.out HG6.out) (Nat.le_trans HW1.out HG7.out) (hbn _ _ hS HG7.out))
     refine hK.out _ _ (hbn _ _ hS HG7.out) (fun hS=>?_)
     clear hK K hvy hko hsz hbn
     refine wpAnyH_done (by kernel_rfl) ?_ _
     go_simp
     clear hS
     go_wp2_with fail
     go_meet
     exact ⟨_,_,rfl,rfl,HE.out⟩
    ·go_simp
     have hb:=(Below.refl wv11.heap.size wv11).alloc (Nat.le_refl _) (.cells #[.int .i64 0,.int .i64 0] 281)
     have HG7:=Hi (show w1.heap.size≤wv11.heap.size from hS.size)
     have HA7:=Hi (AgAt.new wv11 #[.int .i64 0,.int .i64 0] 281)
     refine hK.out _ _ (hS.trans (hb.mono hS.size)) (fun hS=>?_)
     clear hK K hb
     generalize wv11.alloc (.cells #[.int .i64 0,.int .i64 0] 281)=wv11_13 at *
     refine rD 12 rfl (fun K hK=>?_)
     go_simp
     have hb:=(Below.refl wv11_13.heap.size wv11_13).alloc (Nat.le_refl _) (.cells #[.int .i64 0,.int .i64 0] 281)
     have HNE:=Hi (show wv11_13.heap.size≠wv11.heap.size from by have h1:=AgAt.lt HA7.out; omega)
     replace HA7:=Hi (AgAt.kept HA7.out hb)
     have HG6:=Hi (show w1.heap.size≤wv11_13.heap.size from hS.size)
     have HA6:=Hi (AgAt.new wv11_13 #[.int .i64 0,.int .i64 0] 281)
     refine hK.out _ _ (hS.trans (hb.mono hS.size)) (fun hS=>?_)
     clear hK K hb
     generalize wv11_13.alloc (.cells #[.int .i64 0,.int .i64 0] 281)=wv11_13_12 at *
     refine rD 14 rfl (fun K hK=>?_)
     refine step_of (by kernel_rfl) ?_
     refine wp_store_ag plT _ _ rfl _ rfl _ HA6.out (A:=#[.int .i64 x.r,.int .i64 x.s]) rfl rfl rfl (stA_one _ _) ?_
     intro wx hvx hko hsz hbn
     have HB6:=Hi hvx
     replace HA7:=Hi (AgAt.block HA7.out (hko _ (fun e=>HNE.out e.symm)))
     refine hK.out _ _ (hbn _ _ hS HG6.out) (fun hS=>?_)
     clear hK K hvx hko hsz hbn
     refine rD 15 rfl (fun K hK=>?_)
     refine step_of (by kernel_rfl) ?_
     refine wp_store_ag plT _ _ rfl _ rfl _ HA7.out (A:=#[.int .i64 x.r,.int .i64 (((m.el x.r.toNat).length:Int)+1)]) rfl rfl rfl (stA_one _ _) ?_
     intro wy hvy hko hsz hbn
     have HE:=Hi (HADI.out _ _ wy (AgAt.block HB6.out (hko _ HNE.out)) hvy (Nat.le_trans HW1.out HG6.out) (Nat.le_trans HW1.out HG7.out) (hbn _ _ hS HG7.out))
     refine hK.out _ _ (hbn _ _ hS HG7.out) (fun hS=>?_)
     clear hK K hvy hko hsz hbn
     refine wpAnyH_done (by kernel_rfl) ?_ _
     go_simp
     clear hS
     go_wp2_with fail
     go_meet
     exact ⟨_,_,rfl,rfl,HE.out⟩
   ·go_simp
    have hb:=(Below.refl wd.heap.size wd).alloc (Nat.le_refl _) (.cells #[.int .i64 0,.int .i64 0] 281)
    have HG6:=Hi (show w1.heap.size≤wd.heap.size from hS.size)
    have HA6:=Hi (AgAt.new wd #[.int .i64 0,.int .i64 0] 281)
    refine hK.out _ _ (hS.trans (hb.mono hS.size)) (fun hS=>?_)
    clear hK K hb
    generalize wd.alloc (.cells #[.int .i64 0,.int .i64 0] 281)=wv12 at *
    refine wpAnyH_ready (rs:=[11,13]) (by kernel_rfl) (by simp) ?_
    refine AllReadyH.cons rfl (fun K hK=>?_) (AllReadyH.cons rfl (fun K hK=>?_) AllReadyH.nil)
    ·go_simp
     go_wp2_with ((go_at_call 199; refine (HNX.out _ hS).mono ?_; rintro e wv12_11 ⟨rfl,hb⟩))
     replace HA6:=Hi (AgAt.kept HA6.out hb)
     refine hK.out _ _ (hS.trans (hb.mono hS.size)) (fun hS=>?_)
     clear hK K hb
     refine rD 13 rfl (fun K hK=>?_)
     go_simp
     have hb:=(Below.refl wv12_11.heap.size wv12_11).alloc (Nat.le_refl _) (.cells #[.int .i64 0,.int .i64 0] 281)
     have HNE:=Hi (show wd.heap.size≠wv12_11.heap.size from by have h1:=AgAt.lt HA6.out; omega)
     replace HA6:=Hi (AgAt.kept HA6.out hb)
     have HG7:=Hi (show w1.heap.size≤wv12_11.heap.size from hS.size)
     have HA7:=Hi (AgAt.new wv12_11 #[.int .i64 0,.int .i64 0] 281)
     refine hK.out _ _ (hS.trans (hb.mono hS.size)) (fun hS=>?_)
     clear hK K hb
     generalize wv12_11.alloc (.cells #[.int .i64 0,.int .i64 0] 281)=wv12_11_13 at *
     refine rD 14 rfl (fun K hK=>?_)
     refine step_of (by kernel_rfl) ?_
     refine wp_store_ag plT _ _ rfl _ rfl _ HA6.out (A:=#[.int .i64 x.r,.int .i64 x.s]) rfl rfl rfl (stA_one _ _) ?_
     intro wx hvx hko hsz hbn
     have HB6:=Hi hvx
     replace HA7:=Hi (AgAt.block HA7.out (hko _ (fun e=>HNE.out e.symm)))
     refine hK.out _ _ (hbn _ _ hS HG6.out) (fun hS=>?_)
     clear hK K hvx hko hsz hbn
     refine rD 15 rfl (fun K hK=>?_)
     refine step_of (by kernel_rfl) ?_
     refine wp_store_ag plT _ _ rfl _ rfl _ HA7.out (A:=#[.int .i64 x.r,.int .i64 (((m.el x.r.toNat).length:Int)+1)]) rfl rfl rfl (stA_one _ _) ?_
     intro wy hvy hko hsz hbn
     have HE:=Hi (HADI.out _ _ wy (AgAt.block HB6.out (hko _ HNE.out)) hvy (Nat.le_trans HW1.out HG6.out) (Nat.le_trans HW1.out HG7.out) (hbn _ _ hS HG7.out))
     refine hK.out _ _ (hbn _ _ hS HG7.out) (fun hS=>?_)
     clear hK K hvy hko hsz hbn
     refine wpAnyH_done (by kernel_rfl) ?_ _
     go_simp
     clear hS
     go_wp2_with fail
     go_meet
     exact ⟨_,_,rfl,rfl,HE.out⟩
    ·go_simp
     have hb:=(Below.refl wv12.heap.size wv12).alloc (Nat.le_refl _) (.cells #[.int .i64 0,.int .i64 0] 281)
     have HNE:=Hi (show wd.heap.size≠wv12.heap.size from by have h1:=AgAt.lt HA6.out; omega)
     replace HA6:=Hi (AgAt.kept HA6.out hb)
     have HG7:=Hi (show w1.heap.size≤wv12.heap.size from hS.size)
     have HA7:=Hi (AgAt.new wv12 #[.int .i64 0,.int .i64 0] 281)
     refine hK.out _ _ (hS.trans (hb.mono hS.size)) (fun hS=>?_)
     clear hK K hb
     generalize wv12.alloc (.cells #[.int .i64 0,.int .i64 0] 281)=wv12_13 at *
     refine rD 11 rfl (fun K hK=>?_)
     go_simp
     go_wp2_with ((go_at_call 199; refine (HNX.out _ hS).mono ?_; rintro e wv12_13_11 ⟨rfl,hb⟩))
     replace HA6:=Hi (AgAt.kept HA6.out hb)
     replace HA7:=Hi (AgAt.kept HA7.out hb)
     refine hK.out _ _ (hS.trans (hb.mono hS.size)) (fun hS=>?_)
     clear hK K hb
     refine rD 14 rfl (fun K hK=>?_)
     refine step_of (by kernel_rfl) ?_
     refine wp_store_ag plT _ _ rfl _ rfl _ HA6.out (A:=#[.int .i64 x.r,.int .i64 x.s]) rfl rfl rfl (stA_one _ _) ?_
     intro wx hvx hko hsz hbn
     have HB6:=Hi hvx
     replace HA7:=Hi (AgAt.block HA7.out (hko _ (fun e=>HNE.out e.symm)))
     refine hK.out _ _ (hbn _ _ hS HG6.out) (fun hS=>?_)
     clear hK K hvx hko hsz hbn
     refine rD 15 rfl (fun K hK=>?_)
     refine step_of (by kernel_rfl) ?_
     refine wp_store_ag plT _ _ rfl _ rfl _ HA7.out (A:=#[.int .i64 x.r,.int .i64 (((m.el x.r.toNat).length:Int)+1)]) rfl rfl rfl (stA_one _ _) ?_
     intro wy hvy hko hsz hbn
     have HE:=Hi (HADI.out _ _ wy (AgAt.block HB6.out (hko _ HNE.out)) hvy (Nat.le_trans HW1.out HG6.out) (Nat.le_trans HW1.out HG7.out) (hbn _ _ hS HG7.out))
     refine hK.out _ _ (hbn _ _ hS HG7.out) (fun hS=>?_)
     clear hK K hvy hko hsz hbn
     refine wpAnyH_done (by kernel_rfl) ?_ _
     go_simp
     clear hS
     go_wp2_with fail
     go_meet
     exact ⟨_,_,rfl,rfl,HE.out⟩
   ·go_simp
    have hb:=(Below.refl wd.heap.size wd).alloc (Nat.le_refl _) (.cells #[.int .i64 0,.int .i64 0] 281)
    have HG7:=Hi (show w1.heap.size≤wd.heap.size from hS.size)
    have HA7:=Hi (AgAt.new wd #[.int .i64 0,.int .i64 0] 281)
    refine hK.out _ _ (hS.trans (hb.mono hS.size)) (fun hS=>?_)
    clear hK K hb
    generalize wd.alloc (.cells #[.int .i64 0,.int .i64 0] 281)=wv13 at *
    refine wpAnyH_ready (rs:=[11,12]) (by kernel_rfl) (by simp) ?_
    refine AllReadyH.cons rfl (fun K hK=>?_) (AllReadyH.cons rfl (fun K hK=>?_) AllReadyH.nil)
    ·go_simp
     go_wp2_with ((go_at_call 199; refine (HNX.out _ hS).mono ?_; rintro e wv13_11 ⟨rfl,hb⟩))
     replace HA7:=Hi (AgAt.kept HA7.out hb)
     refine hK.out _ _ (hS.trans (hb.mono hS.size)) (fun hS=>?_)
     clear hK K hb
     refine rD 12 rfl (fun K hK=>?_)
     go_simp
     have hb:=(Below.refl wv13_11.heap.size wv13_11).alloc (Nat.le_refl _) (.cells #[.int .i64 0,.int .i64 0] 281)
     have HNE:=Hi (show wv13_11.heap.size≠wd.heap.size from by have h1:=AgAt.lt HA7.out; omega)
     replace HA7:=Hi (AgAt.kept HA7.out hb)
     have HG6:=Hi (show w1.heap.size≤wv13_11.heap.size from hS.size)
     have HA6:=Hi (AgAt.new wv13_11 #[.int .i64 0,.int .i64 0] 281)
     refine hK.out _ _ (hS.trans (hb.mono hS.size)) (fun hS=>?_)
     clear hK K hb
     generalize wv13_11.alloc (.cells #[.int .i64 0,.int .i64 0] 281)=wv13_11_12 at *
     refine rD 14 rfl (fun K hK=>?_)
     refine step_of (by kernel_rfl) ?_
     refine wp_store_ag plT _ _ rfl _ rfl _ HA6.out (A:=#[.int .i64 x.r,.int .i64 x.s]) rfl rfl rfl (stA_one _ _) ?_
     intro wx hvx hko hsz hbn
     have HB6:=Hi hvx
     replace HA7:=Hi (AgAt.block HA7.out (hko _ (fun e=>HNE.out e.symm)))
     refine hK.out _ _ (hbn _ _ hS HG6.out) (fun hS=>?_)
     clear hK K hvx hko hsz hbn
     refine rD 15 rfl (fun K hK=>?_)
     refine step_of (by kernel_rfl) ?_
     refine wp_store_ag plT _ _ rfl _ rfl _ HA7.out (A:=#[.int .i64 x.r,.int .i64 (((m.el x.r.toNat).length:Int)+1)]) rfl rfl rfl (stA_one _ _) ?_
     intro wy hvy hko hsz hbn
     have HE:=Hi (HADI.out _ _ wy (AgAt.block HB6.out (hko _ HNE.out)) hvy (Nat.le_trans HW1.out HG6.out) (Nat.le_trans HW1.out HG7.out) (hbn _ _ hS HG7.out))
     refine hK.out _ _ (hbn _ _ hS HG7.out) (fun hS=>?_)
     clear hK K hvy hko hsz hbn
     refine wpAnyH_done (by kernel_rfl) ?_ _
     go_simp
     clear hS
     go_wp2_with fail
     go_meet
     exact ⟨_,_,rfl,rfl,HE.out⟩
    ·go_simp
     have hb:=(Below.refl wv13.heap.size wv13).alloc (Nat.le_refl _) (.cells #[.int .i64 0,.int .i64 0] 281)
     have HNE:=Hi (show wv13.heap.size≠wd.heap.size from by have h1:=AgAt.lt HA7.out; omega)
     replace HA7:=Hi (AgAt.kept HA7.out hb)
     have HG6:=Hi (show w1.heap.size≤wv13.heap.size from hS.size)
     have HA6:=Hi (AgAt.new wv13 #[.int .i64 0,.int .i64 0] 281)
     refine hK.out _ _ (hS.trans (hb.mono hS.size)) (fun hS=>?_)
     clear hK K hb
     generalize wv13.alloc (.cells #[.int .i64 0,.int .i64 0] 281)=wv13_12 at *
     refine rD 11 rfl (fun K hK=>?_)
     go_simp
     go_wp2_with ((go_at_call 199; refine (HNX.out _ hS).mono ?_; rintro e wv13_12_11 ⟨rfl,hb⟩))
     replace HA6:=Hi (AgAt.kept HA6.out hb)
     replace HA7:=Hi (AgAt.kept HA7.out hb)
     refine hK.out _ _ (hS.trans (hb.mono hS.size)) (fun hS=>?_)
     clear hK K hb
     refine rD 14 rfl (fun K hK=>?_)
     refine step_of (by kernel_rfl) ?_
     refine wp_store_ag plT _ _ rfl _ rfl _ HA6.out (A:=#[.int .i64 x.r,.int .i64 x.s]) rfl rfl rfl (stA_one _ _) ?_
     intro wx hvx hko hsz hbn
     have HB6:=Hi hvx
     replace HA7:=Hi (AgAt.block HA7.out (hko _ (fun e=>HNE.out e.symm)))
     refine hK.out _ _ (hbn _ _ hS HG6.out) (fun hS=>?_)
     clear hK K hvx hko hsz hbn
     refine rD 15 rfl (fun K hK=>?_)
     refine step_of (by kernel_rfl) ?_
     refine wp_store_ag plT _ _ rfl _ rfl _ HA7.out (A:=#[.int .i64 x.r,.int .i64 (((m.el x.r.toNat).length:Int)+1)]) rfl rfl rfl (stA_one _ _) ?_
     intro wy hvy hko hsz hbn
     have HE:=Hi (HADI.out _ _ wy (AgAt.block HB6.out (hko _ HNE.out)) hvy (Nat.le_trans HW1.out HG6.out) (Nat.le_trans HW1.out HG7.out) (hbn _ _ hS HG7.out))
     refine hK.out _ _ (hbn _ _ hS HG7.out) (fun hS=>?_)
     clear hK K hvy hko hsz hbn
     refine wpAnyH_done (by kernel_rfl) ?_ _
     go_simp
     clear hS
     go_wp2_with fail
     go_meet
     exact ⟨_,_,rfl,rfl,HE.out⟩
  case rest =>
   clear HLO HBO HX HB HLB
   obtain ⟨a,b,rfl,rfl,hT⟩:=hcut
   have T:=Hi hT
   clear hT
   cases hwt:m.lg.wait.any (atPl x.r x.s) with
   | true =>
    obtain ⟨y,hy,hat⟩:=List.any_eq_true.1 hwt
    obtain ⟨eb,hem,rfl⟩:=List.mem_map.1 hy
    have HEM:=Hi hem
    have HAT:=Hi hat
    have HE:=Hi (fun W (hW:Below wc.heap.size wc W)=>Added.no (n:=4) (T.out.kept hW).lo (T.out.kept hW).below (addL_there HOK.out.right (Or.inl hwt)))
    clear hwt hy hem hat
    go_upto_region 4 with fail
    refine wp_region_held_drew (S:=fun W=>Below wc.heap.size wc W) (by kernel_rfl) (Below.refl _ _).drew (fun hS=>?_)
    generalize wc.drew=wd at *
    refine tX 0 rfl hS ?_
    refine tX 1 rfl hS ?_
    refine tX 2 rfl hS ?_
    refine tK 3 (v:=?_) rfl ?_ hS ?_
    rotate_left
    ·intro W hSW
     have yl:=(T.out.kept hSW).lo.cell
     go_simp
     all_goals with_reducible rfl
    go_simp
    refine tX 4 rfl hS ?_
    refine tX 5 rfl hS ?_
    refine tK 6 (v:=?_) rfl ?_ hS ?_
    rotate_left
    ·intro W hSW
     have y16:=(T.out.kept hSW).lo.st.mcell
     go_simp
     all_goals with_reducible rfl
    go_simp
    refine tK 7 (v:=.agg #[.int .i64 x.r,.int .i64 x.s]) rfl (fun W hSW=>exec_load_ag plT rfl rfl rfl (T.out.kept hSW).pa) hS ?_
    go_simp
    refine tK 8 (v:=.tuple #[.agg (btA eb.x eb.p eb.c),.bool true]) rfl (fun W hSW=>exec_lookup rfl rfl rfl ((T.out.kept hSW).lo.st.map.look_yes HEM.out _ _ HAT.out)) hS ?_
    refine tX 9 rfl hS ?_
    refine tX 10 rfl hS ?_
    refine tX 11 rfl hS ?_
    go_simp
    refine rD 12 rfl (fun K hK=>?_)
    go_simp
    have hba:=(Below.refl wd.heap.size wd).alloc (Nat.le_refl _) (.cells #[.int .i64 0,.int .i64 0,.int .i64 0,.slice none 0 0] 81)
    have HS0:=Hi hS
    refine hK.out _ _ (hS.trans (hba.mono hS.size)) (fun hS=>?_)
    clear hK K hba
    refine rD 13 rfl (fun K hK=>?_)
    refine step_of (by kernel_rfl) ?_
    refine wp_store_newag btP _ _ rfl rfl _ (A:=btA eb.x eb.p eb.c) rfl rfl rfl (btA_one _ _ _) ?_
    intro w5 _ hb5
    have HB5:=Hi hb5
    refine hK.out _ _ (HS0.out.trans (hb5.mono HS0.out.size)) (fun hS=>?_)
    clear hK K hb5
    refine tX 14 rfl hS ?_
    go_simp
    refine wpAnyH_done (by kernel_rfl) ?_ _
    go_simp
    have HE9:=Hi (HE.out _ hS)
    clear hS
    go_wp2
    go_ret2
    exact HE9.out
   | false =>
    have HWN:=Hi hwt
    have HNO:=Hi (show ∀ e ∈ m.we,atPl x.r x.s e.x=false from fun e he=>by
     have:=List.any_eq_false.1 hwt e.x (List.mem_map.2 ⟨e,he,rfl⟩)
     simpa using this)
    have HWF:=Hi (plWf_of HOK.out.right)
    clear hwt
    go_upto_region 4 with fail
    refine wp_region_held_drew (S:=fun W=>Below wc.heap.size wc W) (by kernel_rfl) (Below.refl _ _).drew (fun hS=>?_)
    generalize wc.drew=wd at *
    refine tX 0 rfl hS ?_
    refine tX 1 rfl hS ?_
    refine tX 2 rfl hS ?_
    refine tK 3 (v:=?_) rfl ?_ hS ?_
    rotate_left
    ·intro W hSW
     have yl:=(T.out.kept hSW).lo.cell
     go_simp
     all_goals with_reducible rfl
    go_simp
    refine tX 4 rfl hS ?_
    refine tX 5 rfl hS ?_
    refine tK 6 (v:=?_) rfl ?_ hS ?_
    rotate_left
    ·intro W hSW
     have y16:=(T.out.kept hSW).lo.st.mcell
     go_simp
     all_goals with_reducible rfl
    go_simp
    refine tK 7 (v:=.agg #[.int .i64 x.r,.int .i64 x.s]) rfl (fun W hSW=>exec_load_ag plT rfl rfl rfl (T.out.kept hSW).pa) hS ?_
    go_simp
    refine tK 8 (v:=.tuple #[.agg (btA Bat.zero none 0),.bool false]) rfl (fun W hSW=>exec_lookup rfl rfl rfl ((T.out.kept hSW).lo.st.map.look_no _ _ HWF.out.1 HWF.out.2 HNO.out)) hS ?_
    refine tX 9 rfl hS ?_
    refine tX 10 rfl hS ?_
    refine tX 11 rfl hS ?_
    go_simp
    refine rD 12 rfl (fun K hK=>?_)
    go_simp
    have hba:=(Below.refl wd.heap.size wd).alloc (Nat.le_refl _) (.cells #[.int .i64 0,.int .i64 0,.int .i64 0,.slice none 0 0] 81)
    have HS0:=Hi hS
    refine hK.out _ _ (hS.trans (hba.mono hS.size)) (fun hS=>?_)
    clear hK K hba
    refine rD 13 rfl (fun K hK=>?_)
    refine step_of (by kernel_rfl) ?_
    refine wp_store_newag btP _ _ rfl rfl _ (A:=btA Bat.zero none 0) rfl rfl rfl (btA_one _ _ _) ?_
    intro w5 _ hb5
    have HB5:=Hi hb5
    refine hK.out _ _ (HS0.out.trans (hb5.mono HS0.out.size)) (fun hS=>?_)
    clear hK K hb5
    refine tX 14 rfl hS ?_
    go_simp
    refine wpAnyH_done (by kernel_rfl) ?_ _
    go_simp
    replace T:=Hi (T.out.kept hS)
    clear hS
    obtain ⟨x0,x1,x2,x3⟩:=BtAt.cells T.out.bx
    have z1:w5.cell? ⟨b,1,none⟩=some (.int .i64 (((m.el x.r.toNat).length:Int)+1)):=AgAt.cell T.out.pb 1
    by_cases hs1:x.s<((m.el x.r.toNat).length:Int)+1
    ·have d1:decide (x.s<((m.el x.r.toNat).length:Int)+1)=true:=decide_eq_true hs1
     have HE9:=Hi (Added.no (n:=4) T.out.lo T.out.below (addL_there HOK.out.right (Or.inr (by simpa [nextS,Sm.lg] using hs1))))
     clear hs1
     go_wp2
     go_ret2
     exact HE9.out
    ·have d1:decide (x.s<((m.el x.r.toNat).length:Int)+1)=false:=decide_eq_false hs1
     by_cases hs2:x.s=((m.el x.r.toNat).length:Int)+1
     ·have e1:(x.s == ((m.el x.r.toNat).length:Int)+1)=true:=by simpa using hs2
      have HSQ:=Hi hs2
      have HFU:=Hi (full_any w5 T.out.lo.st T.out.lo.ok)
      have yl:=T.out.lo.cell
      by_cases hfl:512≤totL m.lg
      ·rw [decide_eq_true hfl] at HFU
       have HE:=Hi (fun W (hW:Below w5.heap.size w5 W)=>Added.no (n:=7) (T.out.kept hW).lo (T.out.kept hW).below (addL_full HOK.out.right HWN.out (by rw [HSQ.out]; simp [nextS,Sm.lg]) hfl))
       clear hfl hs1 hs2
       go_wp2_with (refine wpList_load_ag plT (by kernel_rfl) _ rfl _ rfl (A:=#[.int .i64 x.r,.int .i64 _]) rfl (by first | exact T.out.pa | exact T.out.pb) ?_)
       refine HFU.out.mono ?_
       rintro e w6 ⟨rfl,hb6⟩
       have HE9:=Hi (HE.out _ hb6)
       clear hb6
       go_wp2
       go_ret2
       exact HE9.out
      ·rw [decide_eq_false hfl] at HFU
       have HFL:=Hi (show totL m.lg<512 from by omega)
       clear hfl hs1 hs2
       go_wp2_with (refine wpList_load_ag plT (by kernel_rfl) _ rfl _ rfl (A:=#[.int .i64 x.r,.int .i64 _]) rfl (by first | exact T.out.pa | exact T.out.pb) ?_)
       refine HFU.out.mono ?_
       rintro e w6 ⟨rfl,hb6⟩
       cases hf:fitsL m.lg x with
       | false =>
        have HE:=Hi (fun W (hW:Below w6.heap.size w6 W)=>Added.no (n:=21) ((T.out.kept hb6).kept hW).lo ((T.out.kept hb6).kept hW).below (addL_form HOK.out.right HWN.out (by rw [HSQ.out]; simp [nextS,Sm.lg]) (by have:=HFL.out; omega) hf))
        clear yl x0 x1 x2 x3 z1
        replace T:=Hi (T.out.kept hb6)
        clear hb6
        go_upto_region 11 with fail
        refine wp_region_held_drew (S:=fun W=>Below w6.heap.size w6 W) (by kernel_rfl) (Below.refl _ _).drew (fun hS=>?_)
        generalize w6.drew=wd at *
        have HFI:=Hi (fun W (hW:Below w6.heap.size w6 W)=>fits_any x p c W (T.out.kept hW).lo.st T.out.lo.ok HOK.out.right)
        rw [hf] at HFI
        refine tX 0 rfl hS ?_
        refine tX 1 rfl hS ?_
        refine tX 2 rfl hS ?_
        refine tK 3 (v:=?_) rfl ?_ hS ?_
        rotate_left
        ·intro W hSW
         have yl:=(T.out.kept hSW).lo.cell
         go_simp
         all_goals with_reducible rfl
        go_simp
        refine tK 4 (v:=.agg (btA x p c)) rfl (fun W hSW=>exec_load_ag btP rfl rfl rfl (T.out.kept hSW).bx) hS ?_
        go_simp
        refine rD 5 rfl (fun K hK=>?_)
        go_simp
        go_wp2_with ((go_at_call 202; refine (HFI.out _ hS).mono ?_; rintro e w8 ⟨rfl,hb8⟩))
        have HB8:=Hi hb8
        refine hK.out _ _ (hS.trans (hb8.mono hS.size)) (fun hS=>?_)
        clear hK K hb8
        refine tX 6 rfl hS ?_
        go_simp
        refine wpAnyH_done (by kernel_rfl) ?_ _
        go_simp
        have HE9:=Hi (HE.out _ hS)
        clear hS
        go_wp2
        go_ret2
        exact HE9.out
       | true =>
        have HFT:=Hi hf
        clear yl x0 x1 x2 x3 z1
        replace T:=Hi (T.out.kept hb6)
        clear hb6
        go_upto_region 11 with fail
        refine wp_region_held_drew (S:=fun W=>Below w6.heap.size w6 W) (by kernel_rfl) (Below.refl _ _).drew (fun hS=>?_)
        generalize w6.drew=wd at *
        have HFI:=Hi (fun W (hW:Below w6.heap.size w6 W)=>fits_any x p c W (T.out.kept hW).lo.st T.out.lo.ok HOK.out.right)
        rw [hf] at HFI
        refine tX 0 rfl hS ?_
        refine tX 1 rfl hS ?_
        refine tX 2 rfl hS ?_
        refine tK 3 (v:=?_) rfl ?_ hS ?_
        rotate_left
        ·intro W hSW
         have yl:=(T.out.kept hSW).lo.cell
         go_simp
         all_goals with_reducible rfl
        go_simp
        refine tK 4 (v:=.agg (btA x p c)) rfl (fun W hSW=>exec_load_ag btP rfl rfl rfl (T.out.kept hSW).bx) hS ?_
        go_simp
        refine rD 5 rfl (fun K hK=>?_)
        go_simp
        go_wp2_with ((go_at_call 202; refine (HFI.out _ hS).mono ?_; rintro e w8 ⟨rfl,hb8⟩))
        have HB8:=Hi hb8
        refine hK.out _ _ (hS.trans (hb8.mono hS.size)) (fun hS=>?_)
        clear hK K hb8
        refine tX 6 rfl hS ?_
        go_simp
        refine wpAnyH_done (by kernel_rfl) ?_ _
        go_simp
        replace T:=Hi (T.out.kept hS)
        clear hS
        go_upto_region 13 with fail
        replace T:=Hi (T.out.kept (Below.drew (Below.refl _ _)))
        refine wp_region_held_drew (S:=fun W=>BtAt W w.heap.size x p c∧AgAt W l #[.pointer (some ⟨S,0,none⟩)]) (by kernel_rfl) ⟨T.out.bx,T.out.lo.lg⟩ (fun hS=>?_)
        generalize w8.drew=wq at *
        have HXQ:=Hi (AgAt.lt T.out.bx)
        have HLQ:=Hi (AgAt.lt T.out.lo.lg)
        have HZQ:=Hi T.out.below.size
        have HT9:=Hi (Turns.of_below (F:=F) T.out.below)
        have HCP:=Hi (bcopy_any x p c wq T.out.bo HOK.out.cp.1 HOK.out.cp.2)
        refine tX 0 rfl hS ?_
        refine tX 1 rfl hS ?_
        refine tX 2 rfl hS ?_
        refine tK 3 (v:=?_) rfl ?_ hS ?_
        rotate_left
        ·intro W hSW
         have yl:=AgAt.cell hSW.2 0
         go_simp
         all_goals with_reducible rfl
        go_simp
        refine tK 4 (v:=.agg (btA x p c)) rfl (fun W hSW=>exec_load_ag btP rfl rfl rfl hSW.1) hS ?_
        go_simp
        refine rD 5 rfl (fun K hK=>?_)
        go_simp
        go_wp2_with ((go_at_call 142; refine HCP.out.mono ?_; rintro e w9 ⟨p9,c9,rfl,hp9,hb9⟩))
        replace T:=Hi (T.out.kept hb9)
        have HP9:=Hi hp9
        have HB9:=Hi hb9
        have HZ9:=Hi hb9.size
        refine hK.out _ _ ⟨AgAt.kept hS.1 hb9,AgAt.kept hS.2 hb9⟩ (fun hS=>?_)
        clear hK K hb9 hp9
        refine rD 6 rfl (fun K hK=>?_)
        have HST9:=Hi (T.out.lo.st.more (G:=fun k=>F k∨(wq.heap.size≤k∧k<w9.heap.size)) (fun k h=>Or.inl h) fun k hk=>hk.elim (fun h=>T.out.lo.st.lt k h) fun h=>h.2)
        have HEN:=Hi (enter_any x p9 c9 w9 HST9.out (Nat.le_trans (Sm.len T.out.lo.ok (right_r HOK.out.right).1) (by decide)) HOK.out.right ((BopsF.ofN HP9.out).mono fun k hk h1=>T.out.lo.st.newRo (fun k hk=>Nat.lt_of_lt_of_le (T.out.lt k hk) HZQ.out) h1 hk))
        go_simp
        go_wp2_with ((go_at_call 203; refine HEN.out.mono ?_; rintro e w10 ⟨rfl,p10,c10,hs10,ht10⟩))
        have HS10:=Hi (hs10.more (G:=fun k=>F k∨(wq.heap.size≤k∧k<w10.heap.size)) (fun k hk=>by
         have h9:=HZ9.out
         have h10:=ht10.size
         rcases hk with (hk | hk) | hk
         ·exact Or.inl hk
         ·exact Or.inr ⟨hk.1,by omega⟩
         ·exact Or.inr ⟨by omega,hk.2⟩) fun k hk=>by
         rcases hk with hk | hk
         ·exact hs10.lt k (Or.inl (Or.inl hk))
         ·exact hk.2)
        have HOW:=Hi (fun k (hk:k=S∨(m.v x.r.toNat).ownBlock=some k)=>(show F k from by
         rcases hk with rfl | hk
         ·exact T.out.lo.st.fS
         ·exact (T.out.lo.st.own _ k (right_r HOK.out.right).1 hk).1))
        have HZQ2:=Hi (show wq.heap.size≤w10.heap.size from Nat.le_trans HZ9.out ht10.size)
        have HTT:=Hi ((HT9.out.trans (Turns.of_below HB9.out)).trans (ht10.mono fun k _ hk=>Or.inl (HOW.out k hk)))
        have HNX:=Hi (fun hx=>T.out.nX (HOW.out _ hx))
        have HNL:=Hi (fun hx=>T.out.lo.nl (HOW.out _ hx))
        refine hK.out _ _ ⟨AgAt.block hS.1 (ht10.block _ (AgAt.lt hS.1) HNX.out),AgAt.block hS.2 (ht10.block _ (AgAt.lt hS.2) HNL.out)⟩ (fun hS=>?_)
        clear hK K hs10 ht10
        refine wpAnyH_done (by kernel_rfl) ?_ _
        go_simp
        have HBX0:=Hi hS.1
        have HLG0:=Hi hS.2
        clear hS
        go_upto_region 14 with fail
        have HO10:=Hi (show LgOk (m.more x.r.toNat ⟨x,p9,c9⟩ p10 c10).lg from by rw [m.more_lg x.r.toNat ⟨x,p9,c9⟩ p10 c10 rfl]; exact T.out.lo.ok.enter HOK.out (by have:=HFL.out; omega))
        refine wp_region_held_drew (S:=fun W=>BtAt W w.heap.size x p c∧AgAt W l #[.pointer (some ⟨S,0,none⟩)]) (by kernel_rfl) ⟨HBX0.out,HLG0.out⟩ (fun hS=>?_)
        have HSR:=Hi (HS10.out.kept (Below.drew (Below.refl _ _)))
        have HTR:=Hi (HTT.out.trans (Turns.of_below (F:=fun k=>F k∨w.heap.size≤k) (Below.drew (Below.refl _ _))))
        have HZR:=Hi (show w10.drew.heap.size=w10.heap.size from rfl)
        generalize w10.drew=wr at *
        have HFO:=Hi (follow_any x.r.toNat wr (m.we.length+1) HSR.out HO10.out (right_r HOK.out.right).1 (Nat.lt_succ_self _))
        rw [(right_r HOK.out.right).2] at HFO
        have HNF:=Hi (show ¬ (F w.heap.size∨(wq.heap.size≤w.heap.size∧w.heap.size<w10.heap.size))∧¬ (F l∨(wq.heap.size≤l∧l<w10.heap.size)) from by
         have h1:=HXQ.out
         have h2:=HLQ.out
         refine ⟨fun h=>h.elim T.out.nX fun h=>by omega,fun h=>h.elim T.out.lo.nl fun h=>by omega⟩)
        have HNG:=Hi (show ∀ w12:World,¬ ((F l∨(wq.heap.size≤l∧l<w10.heap.size))∨(wr.heap.size≤l∧l<w12.heap.size)) from fun w12 h=>h.elim HNF.out.2 fun h=>by
         have h2:=HLQ.out
         have h3:=HZQ2.out
         have h4:=HZR.out
         omega)
        have HGF:=Hi (show ∀ (w12:World) k,((F k∨(wq.heap.size≤k∧k<w10.heap.size))∨(wr.heap.size≤k∧k<w12.heap.size))→F k∨w.heap.size≤k from fun w12 k h=>by
         have h1:=HZQ.out
         have h3:=HZQ2.out
         have h4:=HZR.out
         rcases h with (h | h) | h
         ·exact Or.inl h
         ·exact Or.inr (by omega)
         ·exact Or.inr (by omega))
        refine tX 0 rfl hS ?_
        refine tX 1 rfl hS ?_
        refine tX 2 rfl hS ?_
        refine tK 3 (v:=?_) rfl ?_ hS ?_
        rotate_left
        ·intro W hSW
         have yl:=AgAt.cell hSW.2 0
         go_simp
         all_goals with_reducible rfl
        go_simp
        refine tX 4 rfl hS ?_
        refine tK 5 (v:=?_) rfl ?_ hS ?_
        rotate_left
        ·intro W hSW
         obtain ⟨x0,x1,x2,x3⟩:=BtAt.cells hSW.1
         go_simp
         all_goals with_reducible rfl
        go_simp
        refine rD 6 rfl (fun K hK=>?_)
        go_simp
        go_wp2_with ((go_at_call 204; refine HFO.out.mono ?_; rintro e w12 ⟨rfl,m12,hs12,hl12,ho12,ht12⟩))
        have HS12:=Hi hs12
        have HL12:=Hi hl12
        have HO12:=Hi ho12
        have HT12:=Hi ht12
        have HZ12:=Hi ht12.size
        have hN:=HNF.out
        refine hK.out _ _ ⟨AgAt.block hS.1 (ht12.block _ (AgAt.lt hS.1) hN.1),AgAt.block hS.2 (ht12.block _ (AgAt.lt hS.2) hN.2)⟩ (fun hS=>?_)
        clear hK K hs12 hl12 ho12 ht12 hN
        refine wpAnyH_done (by kernel_rfl) ?_ _
        go_simp
        have HBX:=Hi hS.1
        have HLG:=Hi hS.2
        clear hS
        go_upto_region 15 with fail
        have HS15:=Hi (HS12.out.kept (Below.drew (Below.refl _ _)))
        have HB15:=Hi (show BtAt w12.drew w.heap.size x p c from HBX.out)
        have HL15:=Hi (show AgAt w12.drew l #[.pointer (some ⟨S,0,none⟩)] from HLG.out)
        have HTW:=Hi (show Turns F w w12.drew from (HTR.out.trans (HT12.out.mono fun k _ hk=>hk.imp id fun h=>Nat.le_trans HZQ.out h.1)).trans (Turns.of_below (Below.drew (Below.refl _ _))))
        have HWT:=Hi (show BtAt w12.drew w.heap.size x p c∧St w12.drew S M m12 (fun k=>(F k∨(wq.heap.size≤k∧k<w10.heap.size))∨(wr.heap.size≤k∧k<w12.heap.size))∧AgAt w12.drew l #[.pointer (some ⟨S,0,none⟩)] from ⟨HB15.out,HS15.out,HL15.out⟩)
        refine wp_region_held_drew (S:=fun W=>BtAt W w.heap.size x p c∧St W S M m12 (fun k=>(F k∨(wq.heap.size≤k∧k<w10.heap.size))∨(wr.heap.size≤k∧k<w12.heap.size))∧AgAt W l #[.pointer (some ⟨S,0,none⟩)]) (by kernel_rfl) HWT.out (fun hS=>?_)
        generalize w12.drew=wt at *
        have HLF:=Hi (show m12.lg=followL (m.lg.wait.length+1) (enterL m.lg x) x.r.toNat from by
         rw [HL12.out,m.more_lg x.r.toNat ⟨x,p9,c9⟩ p10 c10 rfl]
         simp [Sm.lg])
        have HAD:=Hi (show addL m.lg x=(m12.lg,(m12.lg.row x.r.toNat).drop (x.s.toNat - 1),0) from by
         rw [HLF.out]
         exact addL_ok HOK.out.right HWN.out (by rw [HSQ.out]; simp [nextS,Sm.lg]) (by have:=HFL.out; omega) HFT.out)
        have HKN:=Hi (show (m.el x.r.toNat).length<(m12.el x.r.toNat).length from by
         have h1:=followL_len (m.lg.wait.length+1) (enterL m.lg x) x.r.toNat x.r.toNat
         rw [← HLF.out] at h1
         simp [enterL,Sm.lg] at h1
         omega)
        have HR16:=Hi (right_r HOK.out.right).1
        have HXR:=Hi (right_r HOK.out.right).2.symm
        have HLE:=Hi (Sm.len HO12.out HR16.out)
        have HRD:=Hi (HS15.out.rd HR16.out)
        obtain ⟨g,HG15⟩:∃ g,Hid (m12.q x.r.toNat=some ⟨g,0,none⟩):=by
         obtain ⟨g,o,eg,hg⟩:=HRD.out.1.addr (by rw [beCells_length]; have:=HKN.out; omega)
         have eo:=(HRD.out.2.2.2 _ eg).2
         simp only [Addr.mk.injEq,and_true,true_and] at eo
         subst eo
         exact ⟨g,Hi eg⟩
        obtain ⟨k0,HK0⟩:∃ k0,Hid ((m.el x.r.toNat).length=k0):=⟨_,Hi rfl⟩
        obtain ⟨n12,HN12⟩:∃ n12,Hid ((m12.el x.r.toNat).length=n12):=⟨_,Hi rfl⟩
        obtain ⟨c12,HC12⟩:∃ c12,Hid (m12.c x.r.toNat=c12):=⟨_,Hi rfl⟩
        have HNC:=Hi (And.intro HN12.out HC12.out)
        have HCS:=Hi (show Calls Tryz.prog 194 #[.slice (some ⟨g,k0 * 4,none⟩) (n12 - k0) (c12 - k0)] wt (fun e w'=>∃ p' c' lo,e=.returned (.slice p' (n12 - k0) c')∧lo.map (·.x)=((m12.el x.r.toNat).drop k0).map (·.x)∧URow wt.heap.size w' p' c' lo∧Below wt.heap.size wt w') from by
         have hrd:=HRD.out.1
         rw [HG15.out] at hrd
         have h1:=hrd.drop (k0 * 4)
         rw [Nat.zero_add,beCells_drop] at h1
         have hl:((m12.el x.r.toNat).drop k0).length=n12 - k0:=by rw [List.length_drop,HN12.out]
         have h2:=copies_unf (some ⟨g,k0 * 4,none⟩) (c12 - k0) ((m12.el x.r.toNat).drop k0) wt h1 (fun e he=>(HS15.out.ops _ HR16.out e (List.mem_of_mem_drop he)).bops) (fun e he=>(Sm.okB HO12.out HR16.out (List.mem_of_mem_drop he)).cp) (by rw [hl]; have:=HLE.out; have:=HN12.out; omega)
         rw [hl] at h2
         refine h2.mono ?_
         rintro e w' ⟨p',c',lo,h3,h4,h5,h6⟩
         rw [hl] at h3
         exact ⟨p',c',lo,h3,h4,h5,h6⟩)
        have HE:=Hi (fun (p15:Option Addr) (c15:Nat) (lo:List Be) (w15:World) (h1:lo.map (·.x)=((m12.el x.r.toNat).drop k0).map (·.x)) (h2:URow wt.heap.size w15 p15 c15 lo) (h3:Below wt.heap.size wt w15) =>
         (show Added l S M F m.lg x w (.returned (.tuple #[.slice p15 (n12 - k0) c15,.int .i64 0])) w15 from
          Added.ok HS15.out HO12.out HL15.out (HGF.out _) HAD.out (by
           rw [h1]
           have e1:x.s.toNat - 1=k0:=by have:=HSQ.out; have:=HK0.out; omega
           rw [e1]
           simp [Sm.lg,List.map_drop]) h2 h3 HTW.out (by
           have hl:=congrArg List.length h1
           simp only [List.length_map,List.length_drop] at hl
           rw [hl,HN12.out]) T.out.lo.nl T.out.lw (fun k hk=>Or.inl (Or.inl hk))))
        have HXS:=Hi (show x.s=(k0:Int)+1 from by have:=HSQ.out; have:=HK0.out; omega)
        have HK:=Hi (show k0≤n12∧n12≤c12∧¬ c12=k0∧¬ k0=c12 from by have:=HKN.out; have:=HRD.out.2.1; have:=HN12.out; have:=HK0.out; have:=HC12.out; omega)
        have HRI:=Hi (show 0≤x.r∧x.r<16 from by have:=HR16.out; have:=HXR.out; omega)
        have HW1:=Hi (show IntKind.i64.wrap (k0:Int)=(k0:Int) from wraps_i64 _ (by omega) (by have:=HLE.out; have:=HKN.out; have:=HK0.out; omega))
        refine tX 0 rfl hS ?_
        refine tX 1 rfl hS ?_
        refine tX 2 rfl hS ?_
        refine tK 3 (v:=?_) rfl ?_ hS ?_
        rotate_left
        ·intro W hSW
         have yl:=AgAt.cell hSW.2.2 0
         go_simp
         all_goals with_reducible rfl
        go_simp
        refine tX 4 rfl hS ?_
        refine tK 5 (v:=?_) rfl ?_ hS ?_
        rotate_left
        ·intro W hSW
         obtain ⟨x0,x1,x2,x3⟩:=BtAt.cells hSW.1
         go_simp
         all_goals with_reducible rfl
        refine tX 6 rfl hS ?_
        refine tX 7 rfl hS ?_
        go_simp
        refine tK 8 (v:=?_) rfl ?_ hS ?_
        rotate_left
        ·intro W hSW
         have hri0:=HRI.out.1
         have hri:=HRI.out.2
         go_simp
         all_goals with_reducible rfl
        refine tK 9 (v:=?_) rfl ?_ hS ?_
        rotate_left
        ·intro W hSW
         have yc:=hSW.2.1.cell HR16.out
         rw [HG15.out,HNC.out.1,HNC.out.2] at yc
         go_simp
         all_goals with_reducible rfl
        refine tX 10 rfl hS ?_
        refine tK 11 (v:=?_) rfl ?_ hS ?_
        rotate_left
        ·intro W hSW
         obtain ⟨x0,x1,x2,x3⟩:=BtAt.cells hSW.1
         rw [HXS.out] at x1
         go_simp
         all_goals with_reducible rfl
        go_simp
        refine tK 12 (v:=?_) rfl ?_ hS ?_
        rotate_left
        ·intro W hSW
         have e1:=HW1.out
         go_simp
         all_goals with_reducible rfl
        refine tK 13 (v:=?_) rfl ?_ hS ?_
        rotate_left
        ·intro W hSW
         have hk1:=HK.out.1
         have hk2:=HK.out.2.1
         have hk3:=HK.out.2.2.1
         have hk4:=HK.out.2.2.2
         go_simp
         all_goals with_reducible rfl
        go_simp
        refine rD 14 rfl (fun K hK=>?_)
        go_simp
        go_wp2_with ((go_at_call 194; refine HCS.out.mono ?_; rintro e w15 ⟨p15,c15,lo,rfl,hm15,hr15,hb15⟩))
        have HE9:=Hi (HE.out p15 c15 lo w15 hm15 hr15 hb15)
        refine hK.out _ _ ⟨AgAt.kept hS.1 hb15,hS.2.1.kept hb15,AgAt.kept hS.2.2 hb15⟩ (fun hS=>?_)
        clear hK K hm15 hr15 hb15
        refine tX 15 rfl hS ?_
        refine tX 16 rfl hS ?_
        go_simp
        refine wpAnyH_done (by kernel_rfl) ?_ _
        go_simp
        clear hS
        go_wp2
        go_ret2
        exact HE9.out
     ·have e1:(x.s == ((m.el x.r.toNat).length:Int)+1)=false:=by simpa using hs2
      by_cases h64:64≤m.we.length
      ·have HE:=Hi (fun W (hW:Below w5.heap.size w5 W)=>Added.no (n:=7) (T.out.kept hW).lo (T.out.kept hW).below (addL_fullw HOK.out.right HWN.out (by simp only [nextS,Sm.lg,List.length_map]; omega) (by simpa [Sm.lg] using h64)))
       have H64:=Hi h64
       clear hs1 hs2 h64
       go_upto_region 8 with (refine wpList_load_ag plT (by kernel_rfl) _ rfl _ rfl (A:=#[.int .i64 x.r,.int .i64 _]) rfl (by first | exact T.out.pa | exact T.out.pb) ?_)
       replace T:=Hi (T.out.kept (Below.drew (Below.refl _ _)))
       refine wp_region_held_drew (S:=fun W=>AgAt W a #[.int .i64 x.r,.int .i64 x.s]∧BtAt W w.heap.size x p c∧AgAt W l #[.pointer (some ⟨S,0,none⟩)]) (by kernel_rfl) ⟨T.out.pa,T.out.bx,T.out.lo.lg⟩ (fun hS=>?_)
       have HWD:=Hi (show Below w5.heap.size w5 w5.drew from Below.drew (Below.refl _ _))
       generalize w5.drew=wd at *
       have HWT:=Hi (wait_full x p c wd T.out.lo.st H64.out (Sm.wlen T.out.lo.ok))
       replace HE:=Hi (fun W (hW:Below wd.heap.size wd W)=>HE.out W (HWD.out.trans (hW.mono HWD.out.size)))
       refine tX 0 rfl hS ?_
       refine tX 1 rfl hS ?_
       refine tX 2 rfl hS ?_
       refine tK 3 (v:=?_) rfl ?_ hS ?_
       rotate_left
       ·intro W hSW
        have yl:=AgAt.cell hSW.2.2 0
        go_simp
        all_goals with_reducible rfl
       go_simp
       refine tK 4 (v:=.agg #[.int .i64 x.r,.int .i64 x.s]) rfl (fun W hSW=>exec_load_ag plT rfl rfl rfl hSW.1) hS ?_
       go_simp
       refine tK 5 (v:=.agg (btA x p c)) rfl (fun W hSW=>exec_load_ag btP rfl rfl rfl hSW.2.1) hS ?_
       go_simp
       refine rD 6 rfl (fun K hK=>?_)
       go_simp
       go_wp2_with ((go_at_call 200; refine (HWT.out).mono ?_; rintro e w6 ⟨rfl,hb6⟩))
       have HE9:=Hi (HE.out _ hb6)
       refine hK.out _ _ ⟨AgAt.kept hS.1 hb6,AgAt.kept hS.2.1 hb6,AgAt.kept hS.2.2 hb6⟩ (fun hS=>?_)
       clear hK K hb6
       refine tX 7 rfl hS ?_
       refine tX 8 rfl hS ?_
       go_simp
       refine wpAnyH_done (by kernel_rfl) ?_ _
       go_simp
       clear hS
       go_wp2
       go_ret2
       exact HE9.out
      ·have HWT:=Hi (fun W (hW:Below w5.heap.size w5 W)=>wait_any x p c W (T.out.kept hW).lo.st (by omega) HOK.out (T.out.kept hW).bo HNO.out)
       have HAD:=Hi (addL_gap HOK.out.right HWN.out (by simp only [nextS,Sm.lg,List.length_map]; omega) (show ¬ 64≤m.lg.wait.length from by simpa [Sm.lg] using h64))
       have H64:=Hi (show m.we.length<64 from by omega)
       clear hs1 hs2 h64
       go_upto_region 8 with (refine wpList_load_ag plT (by kernel_rfl) _ rfl _ rfl (A:=#[.int .i64 x.r,.int .i64 _]) rfl (by first | exact T.out.pa | exact T.out.pb) ?_)
       replace T:=Hi (T.out.kept (Below.drew (Below.refl _ _)))
       refine wp_region_held_drew (S:=fun W=>AgAt W a #[.int .i64 x.r,.int .i64 x.s]∧BtAt W w.heap.size x p c∧AgAt W l #[.pointer (some ⟨S,0,none⟩)]) (by kernel_rfl) ⟨T.out.pa,T.out.bx,T.out.lo.lg⟩ (fun hS=>?_)
       have HWD:=Hi (show Below w5.heap.size w5 w5.drew from Below.drew (Below.refl _ _))
       generalize w5.drew=wd at *
       replace HWT:=Hi (HWT.out _ HWD.out)
       have HE:=Hi (fun (W:World) (p6:Option Addr) (c6:Nat) h1 h2=>T.out.gap (w6:=W) (p6:=p6) (c6:=c6) HAD.out HOK.out H64.out h1 h2)
       refine tX 0 rfl hS ?_
       refine tX 1 rfl hS ?_
       refine tX 2 rfl hS ?_
       refine tK 3 (v:=?_) rfl ?_ hS ?_
       rotate_left
       ·intro W hSW
        have yl:=AgAt.cell hSW.2.2 0
        go_simp
        all_goals with_reducible rfl
       go_simp
       refine tK 4 (v:=.agg #[.int .i64 x.r,.int .i64 x.s]) rfl (fun W hSW=>exec_load_ag plT rfl rfl rfl hSW.1) hS ?_
       go_simp
       refine tK 5 (v:=.agg (btA x p c)) rfl (fun W hSW=>exec_load_ag btP rfl rfl rfl hSW.2.1) hS ?_
       go_simp
       refine rD 6 rfl (fun K hK=>?_)
       go_simp
       go_wp2_with ((go_at_call 200; refine (HWT.out).mono ?_; rintro e w6 ⟨rfl,p6,c6,hs6,ht6⟩))
       have HE9:=Hi (HE.out w6 p6 c6 hs6 ht6)
       have HM:=Hi (T.out.ne)
       refine hK.out _ _ ⟨AgAt.block hS.1 (ht6.block _ (AgAt.lt hS.1) HM.out.1),AgAt.block hS.2.1 (ht6.block _ (AgAt.lt hS.2.1) HM.out.2.1),AgAt.block hS.2.2 (ht6.block _ (AgAt.lt hS.2.2) HM.out.2.2)⟩ (fun hS=>?_)
       clear hK K hs6 ht6
       refine tX 7 rfl hS ?_
       refine tX 8 rfl hS ?_
       go_simp
       refine wpAnyH_done (by kernel_rfl) ?_ _
       go_simp
       clear hS
       go_wp2
       go_ret2
       exact HE9.out
open Go.RowKit
theorem followL_row:∀ (n:Nat) (L:Lg) (r:Nat),(∃ t,(followL n L r).row r=L.row r ++ t)∧∀ k,k≠r→(followL n L r).row k=L.row k
 | 0,L,r=>⟨⟨[],by simp [followL]⟩,fun _ _=>rfl⟩
 | n+1,L,r=>by
  rw [followL]
  split
  ·exact ⟨⟨[],by simp⟩,fun _ _=>rfl⟩
  ·cases hf:L.wait.find? (atPl (r:Int) (nextS L r)) with
   | none=>exact ⟨⟨[],by simp⟩,fun _ _=>rfl⟩
   | some x =>
    have hat:=atPl_iff.1 (List.find?_some hf)
    have hrr:x.r.toNat=r:=by rw [hat.1]; simp
    dsimp only
    split
    ·obtain ⟨⟨t,h1⟩,h2⟩:=followL_row n (enterL (dropL L (r:Int) (nextS L r)) x) r
     refine ⟨⟨x :: t,?_⟩,fun k hk=>?_⟩
     ·rw [h1]; simp [enterL,dropL,hrr]
     ·rw [h2 k hk]; simp [enterL,dropL,hrr,hk]
    ·exact ⟨⟨[],by simp [dropL]⟩,fun _ _=>rfl⟩
theorem addL_row (L:Lg) (x:Bat):(addL L x).1.row x.r.toNat=L.row x.r.toNat ++ (addL L x).2.1∧(∀ k,k≠x.r.toNat→(addL L x).1.row k=L.row k)∧((addL L x).2.2≠0→(addL L x).2.1=[]):=by
 unfold addL
 split
 ·exact ⟨by simp,fun _ _=>rfl,fun _=>rfl⟩
 ·next hr =>
  split
  ·exact ⟨by simp,fun _ _=>rfl,fun _=>rfl⟩
  ·split
   ·split
    ·exact ⟨by simp,fun _ _=>rfl,fun _=>rfl⟩
    ·exact ⟨by simp,fun _ _=>rfl,fun _=>rfl⟩
   ·next hs =>
    split
    ·exact ⟨by simp,fun _ _=>rfl,fun _=>rfl⟩
    ·split
     ·exact ⟨by simp,fun _ _=>rfl,fun _=>rfl⟩
     ·have hs':x.s=nextS L x.r.toNat:=by simpa using hs
      have hsn:x.s.toNat - 1=(L.row x.r.toNat).length:=by rw [hs']; simp [nextS]
      obtain ⟨⟨t,h1⟩,h2⟩:=followL_row (L.wait.length+1) (enterL L x) x.r.toNat
      dsimp only
      have h3:(enterL L x).row x.r.toNat=L.row x.r.toNat ++ [x]:=by simp [enterL]
      rw [h3] at h1
      refine ⟨?_,fun k hk=>?_,fun h=>absurd rfl h⟩
      ·rw [h1,hsn,List.append_assoc,List.drop_left]
      ·rw [h2 k hk]; simp [enterL,hk]
def allB (L:Lg) (k:Nat):List Bat:=(List.range k).flatMap L.row
theorem allB_succ (L:Lg) (k:Nat):allB L (k+1)=allB L k ++ L.row k:=by
 unfold allB
 rw [List.range_succ,List.flatMap_append]
 simp
end Go.Proofs.YthfhefdfehlbkaaGreat
