/- Several texts laid together: MiL, FsC. -/
import Derived.Test.YtbohndgbfbfldaaGreatDoorZAC
import Derived.Test.YtbohndgbfbfldaaGreatDoorZAP
import Derived.Test.YtbohndgbfbfldaaGreatDoorDev
import Derived.Test.YtbohndgbfbfldaaGreatDoorZAK
import Derived.Test.YtbohndgbfbfldaaGreatDoorZAG
set_option maxHeartbeats 1000000
namespace Go.Proofs.YtbohndgbfbfldaaGreatDoor
open Go.RowKit
def Mi.cells (s:Mi):List Value:=[.int .i64 s.kind,.int .i64 s.at_,.int .i64 s.val]
def mis (ps:List Mi):List Value:=ps.flatMap Mi.cells
theorem Mi.cells_len (s:Mi):s.cells.length=3:=rfl
theorem zwq (ps:List Mi):(mis ps).length=ps.length*3:=zcu _ 3 Mi.cells_len ps
theorem zpf (ps:List Mi) (k:Nat) (h:k < ps.length):(mis ps)[k*3]?=some (.int .i64 ps[k].kind):=zam _ 3 Mi.cells_len ps k 0 h (by omega)
theorem zos (ps:List Mi) (k:Nat) (h:k < ps.length):(mis ps)[k*3+1]?=some (.int .i64 ps[k].at_):=zam _ 3 Mi.cells_len ps k 1 h (by omega)
theorem zot (ps:List Mi) (k:Nat) (h:k < ps.length):(mis ps)[k*3+2]?=some (.int .i64 ps[k].val):=zam _ 3 Mi.cells_len ps k 2 h (by omega)
def RdM (w:World) (v:Value) (ps:List Mi):Prop:=Rd w 3 v ps.length (mis ps)
theorem RdM.shape {w:World} {v:Value} {ps:List Mi} (h:RdM w v ps):∃ ao cap,v=.slice ao ps.length cap∧ps.length≤cap∧(0 < ps.length→∃ b o,ao=some ⟨b,o,none⟩∧b < w.heap.size ∧
  ∀ k (h:k < ps.length),w.cell? ⟨b,o+k*3,none⟩=some (.int .i64 ps[k].kind)∧w.cell? ⟨b,o+k*3+1,none⟩=some (.int .i64 ps[k].at_)∧w.cell? ⟨b,o+k*3+2,none⟩=some (.int .i64 ps[k].val)):=by
 obtain ⟨_,ao,cap,rfl,h2,h3⟩:=h;refine ⟨ao,cap,rfl,h2.1,fun hn=>?_⟩;obtain ⟨b,o,rfl,hb,hc⟩:=h3 hn;exact ⟨b,o,rfl,hb,fun k hk=>⟨(hc (k*3) (by omega)).trans (zpf ps k hk),(hc (k*3+1) (by omega)).trans (zos ps k hk),(hc (k*3+2) (by omega)).trans (zot ps k hk)⟩⟩
theorem yacq:(Tryz.prog.info? 120).map (fun i=>(i.zero,i.size,i.bytes))=some (some (.agg #[.int .i64 0,.int .i64 0,.int .i64 0]),3,24):=by kernel_rfl
theorem zuh (a v:Int) (f:Int) (w:World):Calls Tryz.prog 131 #[.agg #[.int .i64 a,.int .i64 v,.int .i64 f]] w fun e w'=>e=.returned (.agg #[.int .i64 a,.int .i64 v,.int .i64 f])∧Below w.heap.size w w':=by
 go_enter Tryz.func131,Tryz.ntmps131;go_wp2;refine bodyPost_ret (v:=.agg #[.int .i64 a,.int .i64 v,.int .i64 f]) (by simp[results,Tryz.results131,go_sem]) rfl ⟨rfl,?_⟩
 repeat (refine Below.alloc ?_ (by simp <;> omega) _)
 exact Below.refl _ _
theorem zkd {ys:List Value} {ps:List Mi} {k:Nat} (hk:k < ps.length) (hl:ys.length=ps.length*3) (h:∀ j,j < k*3→ys[j]?=(mis ps)[j]?) :
  ∀ j,j < (k+1)*3→(put3 ys k (.int .i64 ps[k].kind) (.int .i64 ps[k].at_) (.int .i64 ps[k].val))[j]?=(mis ps)[j]?:=by
 intro j hj;rw[zdn (by omega)]
 split
 ·rename_i e;rw[e,zot ps k hk]
 ·split
  ·rename_i e;rw[e,zos ps k hk]
  ·split
   ·rename_i e;rw[e,zpf ps k hk]
   ·exact h j (by omega)
theorem ztt {ys:List Value} {ps:List Mi} (hl:ys.length=ps.length*3) (h:∀ j,j < ps.length*3→ys[j]?=(mis ps)[j]?):ys=mis ps:=by
 apply List.ext_getElem?;intro j
 by_cases hj:j < ps.length*3
 ·exact h j hj
 ·rw[List.getElem?_eq_none (by omega),List.getElem?_eq_none (by rw[zwq];omega)]
theorem yaat (v:Value) (ps:List Mi) (w:World) (h:RdM w v ps) (hn:ps.length≤1048576) :
  Calls Tryz.prog 83 #[v] w fun e w'=>∃ v',e=.returned v'∧Row w' 120 3 w.heap.size w'.heap.size v' ps.length (mis ps)∧Below w.heap.size w w':=by
 obtain ⟨ao,cap,rfl,hcap,hc⟩:=h.shape;clear h;have hmk:=zbc (P:=Tryz.prog) 31 120 (.agg #[.int .i64 0,.int .i64 0,.int .i64 0]) 3 24 Tryz.underlying31 yacq .i64 .i64 ps.length (by omega) (by omega);go_enter Tryz.func83,Tryz.ntmps83;go_wp2
 go_loopw [4] (fun i wr=>∃ k:Nat,k≤ps.length∧i=.int .i64 k∧(∃ ys,Row wr 120 3 w.heap.size (w.heap.size+1) (.slice (some ⟨w.heap.size,0,none⟩) ps.length ps.length) ps.length ys∧∀ j,j < k*3→ys[j]?=(mis ps)[j]?)∧Below w.heap.size w wr∧w.heap.size+1≤wr.heap.size) (fun i _=>ps.length - (intOf i).toNat)
 case atStart =>
  refine ⟨0,by omega,rfl,⟨_,zlk w (.agg #[.int .i64 0,.int .i64 0,.int .i64 0]) 3 ps.length 120 (by simp[maxLen];omega),fun j hj=>absurd hj (by omega)⟩,(Below.refl _ _).alloc (Nat.le_refl _) _,by simp⟩
 case round =>
  obtain ⟨k,hk,rfl,⟨ys,hrow,hys⟩,hb,hz⟩:=hrel
  by_cases hlt:k < ps.length
  ·obtain ⟨b,o,rfl,hbl,hcell⟩:=hc (by omega);obtain ⟨c0,c1,c2⟩:=hcell k hlt;have d0:=(hb.cell (p:=⟨b,o+k*3,none⟩) hbl).trans c0;have d1:=(hb.cell (p:=⟨b,o+k*3+1,none⟩) hbl).trans c1;have d2:=(hb.cell (p:=⟨b,o+k*3+2,none⟩) hbl).trans c2;have RH:=zaa hrow;have YH:=zaa hys;clear hcell hc c0 c1 c2 hrow hys;go_wp2_with fail;refine (zuh _ _ _ _).mono ?_;rintro e w1 ⟨rfl,hb1⟩;have R1:=zaa (RH.o.below hb1 (by omega))
   obtain ⟨_,_,_,hsz,hfr,hcl⟩:=R1.o.at
   have hl:=RH.o.len;have f0:=hfr (k*3);have f1:=hfr (k*3+1);have f2:=hfr (k*3+2)
   have e0:w1.cell? ⟨w.heap.size,k*3,none⟩=some (ys[k*3]'(by omega)):=by rw[hcl _ (by omega)];simp
   have e1:w1.cell? ⟨w.heap.size,k*3+1,none⟩=some (ys[k*3+1]'(by omega)):=by rw[hcl _ (by omega)];simp
   have e2:w1.cell? ⟨w.heap.size,k*3+2,none⟩=some (ys[k*3+2]'(by omega)):=by rw[hcl _ (by omega)];simp
   have BH:=zaa (hb.trans (hb1.mono (show w.heap.size≤wr.heap.size by omega)));have hz1:=hb1.size;clear hfr hcl hb1 hb d0 d1 d2;have P1:=zaa (R1.o.put3 k (.int .i64 ps[k].kind) (.int .i64 ps[k].at_) (.int .i64 ps[k].val));have B1:=zaa (((BH.o.setCell (p:=⟨w.heap.size,k*3,none⟩) (Nat.le_refl _) (.int .i64 ps[k].kind)).setCell (p:=⟨w.heap.size,k*3+1,none⟩) (Nat.le_refl _) (.int .i64 ps[k].at_)).setCell (p:=⟨w.heap.size,k*3+2,none⟩) (Nat.le_refl _) (.int .i64 ps[k].val));go_wp2
   go_roundw
   case rel=>exact ⟨k+1,by omega,by go_num,⟨_,P1.o,zkd hlt hl YH.o⟩,B1.o,by simp;omega⟩
   case measure=>simp[intOf];omega
  ·have e:k=ps.length:=by omega
   subst e;have hl:=hrow.len;have RH:=zaa hrow;have YH:=zaa hys;clear hrow hys hc;go_wp2;go_ret;have e:=ztt hl YH.o;refine ⟨_,rfl,?_,hb⟩;rw[← e];exact RH.o.wide (Nat.le_refl _) hz
theorem zob (ao:Option Addr) (n cap:Nat) (left:Int) (w:World) (hn:n≤maxLen) (h0:0≤left) (h1:left≤1048576) :
  Calls Tryz.prog 68 #[.slice ao n cap,.int .i64 left] w fun e w'=>e=.returned (.int .i64 (zdr left n))∧w'=w:=by
 unfold maxLen at hn
 by_cases h:left < n
 ·have e:zdr left n=-1:=by unfold zdr;rw[if_pos h]
  rw[e];clear e;go_enter Tryz.func68,Tryz.ntmps68;go_wp2;go_ret;exact ⟨rfl,rfl⟩
 ·have e:zdr left n=left - n:=by unfold zdr;rw[if_neg h]
  rw[e];clear e;go_enter Tryz.func68,Tryz.ntmps68;go_wp2;go_ret;exact ⟨rfl,rfl⟩
theorem zrv (a v:Int) (f:Int) (w:World):Calls Tryz.prog 107 #[.agg #[.int .i64 a,.int .i64 v,.int .i64 f],.agg #[.int .i64 a,.int .i64 v,.int .i64 f]] w fun e w'=>e=.returned (.bool true)∧Below w.heap.size w w':=by
 go_enter Tryz.func107,Tryz.ntmps107;go_wp2;go_ret;refine ⟨rfl,?_⟩
 repeat (refine Below.alloc ?_ (by simp <;> omega) _)
 exact Below.refl _ _
def zpa:Value→Bool
 | .int _ _=>true
 | _=>false
def isSB:Value→Bool
 | .string _=>true
 | _=>false
def zgr:List Value→Bool
 | []=>true
 | [a]=>!isSB a
 | [a,b]=>!isSB a && !isSB b
 | a :: b :: c :: t=>!isSB a && !(zpa a && zpa b && zpa c) && zgr (b :: c :: t)
theorem zhs {a:Value} {l:List Value} (h:zgr (a :: l)=true):isSB a=false∧zgr l=true:=by
 match l with
 | []=>simp[zgr] at h;exact ⟨h,rfl⟩
 | [b]=>simp[zgr] at h;exact ⟨h.1,by simp[zgr,h.2]⟩
 | b :: c :: t =>
  simp only[zgr,Bool.and_eq_true,Bool.not_eq_true'] at h;exact ⟨h.1.1,h.2⟩
theorem zny:∀ {l:List Value},zgr l=true→∀ (j:Nat) (v:Value),l[j]?=some v→isSB v=false
 | [],_,j,v,e=>by cases e
 | a :: l,h,0,v,e=>by
  simp only[List.getElem?_cons_zero,Option.some.injEq] at e;rw[← e];exact (zhs h).1
 | a :: l,h,j+1,v,e=>zny (zhs h).2 j v (by simpa using e)
theorem zjw:∀ {l:List Value},zgr l=true→∀ (j:Nat) (a b c:Value),l[j]?=some a→l[j+1]?=some b→l[j+2]?=some c→¬ (zpa a=true∧zpa b=true∧zpa c=true)
 | [],_,j,_,_,_,e,_,_=>by cases e
 | x :: l,h,0,a,b,c,e1,e2,e3=>by
  match l,h,e2,e3 with
  | [],_,e2,_=>simp at e2
  | [y],_,_,e3=>simp at e3
  | y :: z :: t,h,e2,e3 =>
   simp only[List.getElem?_cons_zero,List.getElem?_cons_succ,Option.some.injEq] at e1 e2 e3;subst e1 e2 e3;simp only[zgr,Bool.and_eq_true,Bool.not_eq_true'] at h;intro q;have:=h.1.2;rw[q.1,q.2.1,q.2.2] at this
   cases this
 | x :: l,h,j+1,a,b,c,e1,e2,e3=>zjw (zhs h).2 j a b c (by simpa using e1) (by simpa using e2) (by simpa using e3)
def Hard (xs:List Value):Prop:=(∃ (j:Nat) (v:Value),xs[j]?=some v∧isSB v=true)∨∃ (j:Nat) (a b c:Value),xs[j]?=some a∧xs[j+1]?=some b∧xs[j+2]?=some c∧zpa a=true∧zpa b=true∧zpa c=true
structure Soft (w w':World):Prop where
 size:w.heap.size≤w'.heap.size
 blk:∀ j,j < w.heap.size→w'.heap[j]?=w.heap[j]?∨∃ cs t fr,w.heap[j]?=some (.cells cs t fr)∧zgr cs.toList=true
theorem Soft.trans {a b c:World} (h:Soft a b) (k:Soft b c):Soft a c :=
 ⟨Nat.le_trans h.size k.size,fun j hj=>by
  rcases h.blk j hj with e | e
  ·rcases k.blk j (Nat.lt_of_lt_of_le hj h.size) with f | f
   ·exact .inl (f.trans e)
   ·rw[e] at f;exact .inr f
  ·exact .inr e⟩
theorem Soft.of_below {w w':World} (h:Below w.heap.size w w'):Soft w w':=⟨h.size,fun j hj=>.inl (h.block j hj)⟩
theorem Soft.outside {w w':World} {b:Nat} {cs:Array Value} {t:TypeId} {fr:Nat×Nat} (h:Outside b (b+1) w w') (hb:w.heap[b]?=some (.cells cs t fr)) (hs:zgr cs.toList=true):Soft w w' :=
 ⟨h.size,fun k hk=>by
  by_cases e:k=b
  ·subst e;exact .inr ⟨cs,t,fr,hb,hs⟩
  ·exact .inl (h.block k hk (by omega))⟩
theorem Rd.soft {w w':World} {size:Nat} {v:Value} {n:Nat} {xs:List Value} (h:Rd w size v n xs) (hs:Soft w w') (hd:0 < n*size→Hard xs):Rd w' size v n xs:=by
 by_cases hn:0 < n*size
 ·refine h.same hs.size (fun j hj he=>?_)
  rcases hs.blk j hj with e | ⟨cs,t,fr,hb,sf⟩
  ·exact e
  ·exfalso;obtain ⟨hl,ao,cap,rfl,_,hc⟩:=h
   have hn':0 < n:=by
    rcases Nat.eq_zero_or_pos n with e | e
    ·subst e;simp at hn
    ·exact e
   obtain ⟨b',o,rfl,_,hc⟩:=hc hn';simp only[Value.ownBlock,Option.some.injEq] at he;subst he
   have C:∀ k u,xs[k]?=some u→cs.toList[o+k]?=some u:=fun k u e=>by
    have hk:k < n*size:=by
     have:=(List.getElem?_eq_some_iff.1 e).1;omega
    have:=hc k hk;rw[e] at this;simp only[World.cell?,hb] at this;simpa using this
   rcases hd hn with ⟨k,u,e,f⟩ | ⟨k,a,b,c,e1,e2,e3,f1,f2,f3⟩
   ·have:=zny sf _ _ (C k u e);rw[f] at this
    cases this
   ·exact zjw sf (o+k) a b c (C k a e1) (C (k+1) b e2) (C (k+2) c e3) ⟨f1,f2,f3⟩
 ·obtain ⟨h3,ao,cap,rfl,h4,h5⟩:=h;refine ⟨h3,ao,cap,rfl,h4,fun hp=>?_⟩;obtain ⟨b',o,e,hlt,hc⟩:=h5 hp;exact ⟨b',o,e,Nat.lt_of_lt_of_le hlt hs.size,fun j hj=>absurd (Nat.lt_of_le_of_lt (Nat.zero_le _) hj) hn⟩
theorem zvc {zs:List Int} (h:3≤zs.length):Hard (zbk zs):=.inr ⟨0,_,_,_,zbs zs 0 (by omega),zbs zs 1 (by omega),zbs zs 2 (by omega),rfl,rfl,rfl⟩
theorem RdI.soft {w w':World} {v:Value} {zs:List Int} (h:RdI w v zs) (hs:Soft w w') (h3:3≤zs.length):RdI w' v zs:=Rd.soft h hs (fun _=>zvc h3)
theorem Rd.softNil {w w':World} {size:Nat} {v:Value} (h:Rd w size v 0 []) (hs:Soft w w'):Rd w' size v 0 []:=Rd.soft h hs (fun hn=>by simp at hn)
theorem RdDev.soft {w w':World} {v:Value} {ws es:List Int} (h:RdDev w v ws [] es []) (hs:Soft w w') (h1:3≤ws.length) (h2:3≤es.length):RdDev w' v ws [] es []:=by
 obtain ⟨vW,vP,vS,vQ,rfl,⟨_,_,e1,a,b⟩,⟨_,_,e2,c,d⟩⟩:=h
 cases e1
 cases e2
 exact ⟨_,_,_,_,rfl,⟨_,_,rfl,RdI.soft a hs h1,Rd.softNil b hs⟩,⟨_,_,rfl,RdI.soft c hs h2,Rd.softNil d hs⟩⟩
end Go.Proofs.YtbohndgbfbfldaaGreatDoor
