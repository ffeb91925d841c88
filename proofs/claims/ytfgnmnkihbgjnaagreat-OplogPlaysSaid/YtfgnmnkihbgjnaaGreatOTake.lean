/-
  TAKE: an op is read.
  Conditions: at most 10^12 bytes are left, or the op's Path is not longer.
-/
import Derived.Test.YtfgnmnkihbgjnaaGreatHC
import Derived.Test.YtfgnmnkihbgjnaaGreatGE
namespace Go.Proofs.YtfgnmnkihbgjnaaGreat
open Go.RowKit
structure TkO (w0:World) (B b R V PB:Nat) (p:Prt) (x:Opp) (q:Option Addr) (c:Nat) (s:RS) (w:World):Prop where
 hR:w0.heap.size≤R
 hV:R<V
 hP:V<PB
 hb:b<w0.heap.size
 res:OpAt w R Opp.zero none 0
 op:OpAt w V x q c
 pr:PrAt w PB p
 rd:RdS w B b s
 only:Only b w0 w
 own:OwnP w (V+1) (.slice q x.path.length c) x.path
theorem TkO.kept {w0 w w':World} {B b R V PB:Nat} {p:Prt} {x:Opp} {q:Option Addr} {c:Nat} {s:RS} (h:TkO w0 B b R V PB p x q c s w) (hb:Below w.heap.size w w'):TkO w0 B b R V PB p x q c s w' :=
 {h with res:=h.res.kept hb,op:=h.op.kept hb,pr:=h.pr.kept hb,rd:=h.rd.kept hb,only:=h.only.trans (Only.of_below hb),own:=h.own.below hb }
theorem TkO.set {w0 w w':World} {B b R V PB:Nat} {p:Prt} {x y:Opp} {q q':Option Addr} {c c':Nat} {s:RS} (h:TkO w0 B b R V PB p x q c s w) (hc:Only V w w') (hop:OpAt w' V y q' c') (hown:OwnP w' (V+1) (.slice q' y.path.length c') y.path):TkO w0 B b R V PB p y q' c' s w':=by
 have h1:=h.hR; have h2:=h.hV; have h3:=h.hP; have h4:=h.hb
 have hbw:Below w0.heap.size w w':=⟨hc.os,hc.tape,hc.output,hc.size,fun k hk=>hc.block k (by have:=h.only.size; omega) (by simp; omega)⟩
 exact { h with res:=h.res.only hc (by omega),op:=hop,pr:=h.pr.only hc (by omega),rd:=h.rd.under hbw h4,only:=h.only.then_new hbw,own:=hown }
section
variable {w0 w:World} {B b R V PB:Nat} {p:Prt} {x:Opp} {q:Option Addr} {c:Nat} {s:RS}
theorem TkO.setPath (h:TkO w0 B b R V PB p x q c s w) (l:List Qm.St) (q':Option Addr) (c':Nat) (hl:OwnP w (V+1) (.slice q' l.length c') l):TkO w0 B b R V PB p { x with path:=l } q' c' s (w.setCell ⟨V,6,none⟩ (.slice q' l.length c')) :=
 h.set (Only.set _ _ _ _) (h.op.setPath l q' c') (hl.only (Only.set _ _ _ _) (Nat.lt_succ_self _))
theorem OwnP.up {w:World} {B V:Nat} {v:Value} {l:List Qm.St} (h:OwnP w B v l) (hV:V<B):OwnP w (V+1) v l:=own_base h (fun g hg=>by have:=(World.ownsRow.lt h g hg).1; omega)
theorem TkO.pa (h:TkO w0 B b R V PB p x q c s w):Pa w x q c:=by
 obtain ⟨p',c',e,h1,h2,-,h3,-⟩:=own_rd h.own
 cases e
 exact ⟨h1,h3,h2⟩
end
section
variable {w0 w wz:World} {B b R V PB:Nat} {p:Prt} {x:Opp} {q:Option Addr} {c:Nat} {s:RS}
theorem TkO.done (h:TkO w0 B b R V PB p x q c s w) (hbn:∀ B w0,Below B w0 w→B≤R→Below B w0 wz):RdS wz B b s :=
 h.rd.under (hbn _ w (Below.refl _ _) h.hR) h.hb
end
end Go.Proofs.YtfgnmnkihbgjnaaGreat
