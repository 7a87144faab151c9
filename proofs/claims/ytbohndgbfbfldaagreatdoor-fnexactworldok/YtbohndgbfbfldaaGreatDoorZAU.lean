/- Several texts laid together: MdA, MdC, OpL. -/
import Derived.Test.YtbohndgbfbfldaaGreatDoorZAQ
import Derived.Test.YtbohndgbfbfldaaGreatDoorThE
import Derived.Test.YtbohndgbfbfldaaGreatDoorZAG
import Derived.Deep.DeepCutAuto
import Derived.Test.YtbohndgbfbfldaaGreatDoorZAF
set_option maxRecDepth 100000
set_option maxHeartbeats 4000000
namespace Go.Proofs.YtbohndgbfbfldaaGreatDoor
open Go.RowKit
theorem RdTh.form {w:World} {v:Value} {ts:List Th} (h:RdTh w v ts):∃ ao cap,v=.slice ao ts.length cap:=by
 obtain ⟨us,e,r⟩:=h;obtain ⟨ao,cap,rfl,-⟩:=r.shape;exact ⟨ao,cap,by rw[zda e]⟩
theorem OwU.same {w w':World} {lo hi:Nat} {v:Value} {us:List (Th×Value)} (h:OwU w lo hi v us) (hs:∀ b,lo≤b→b < hi→w'.heap[b]?=w.heap[b]?):OwU w' lo hi v us:=⟨h.row.same hs,fun k hk=>(h.pg k hk).same hs,h.ap⟩
theorem RowTh.same {w w':World} {lo hi:Nat} {v:Value} {ts:List Th} (h:RowTh w lo hi v ts) (hs:∀ b,lo≤b→b < hi→w'.heap[b]?=w.heap[b]?):RowTh w' lo hi v ts:=by
 obtain ⟨us,e,r⟩:=h;exact ⟨us,e,r.same hs⟩
def RdMd (w:World) (v:Value) (ts:List Th) (ps:List Den):Prop:=∃ vW vP,v=.agg #[vW,vP]∧RdTh w vW ts∧RdD w vP ps
def RowMd (w:World) (lo hi:Nat) (v:Value) (ts:List Th) (ps:List Den):Prop:=∃ vW vP lt ut lp up,v=.agg #[vW,vP]∧RowTh w lt ut vW ts∧Row w 143 3 lp up vP ps.length (zcv ps)∧lo≤lt∧ut≤hi∧lo≤lp∧up≤hi∧(ut≤lp∨up≤lt)
theorem RowMd.rd {w:World} {lo hi:Nat} {v:Value} {ts:List Th} {ps:List Den} (h:RowMd w lo hi v ts ps):RdMd w v ts ps:=by
 obtain ⟨vW,vP,lt,ut,lp,up,rfl,h1,h2,-⟩:=h;exact ⟨vW,vP,rfl,h1.rd,h2.rd⟩
theorem RdMd.below {w w':World} {v:Value} {ts:List Th} {ps:List Den} (h:RdMd w v ts ps) (hb:Below w.heap.size w w'):RdMd w' v ts ps:=by
 obtain ⟨vW,vP,rfl,h1,h2⟩:=h;exact ⟨vW,vP,rfl,h1.below hb,Rd.below h2 hb⟩
theorem RowMd.below {w w':World} {lo hi:Nat} {v:Value} {ts:List Th} {ps:List Den} (h:RowMd w lo hi v ts ps) {B:Nat} (hb:Below B w w') (hB:hi≤B):RowMd w' lo hi v ts ps:=by
 obtain ⟨vW,vP,lt,ut,lp,up,rfl,h1,h2,q⟩:=h;exact ⟨vW,vP,lt,ut,lp,up,rfl,h1.below hb (by omega),h2.below hb (by omega),q⟩
theorem RowMd.outside {w w':World} {lo hi:Nat} {v:Value} {ts:List Th} {ps:List Den} (h:RowMd w lo hi v ts ps) {lo' hi':Nat} (ho:Outside lo' hi' w w') (hd:hi≤lo'∨hi'≤lo) (hz:hi≤w.heap.size):RowMd w' lo hi v ts ps:=by
 obtain ⟨vW,vP,lt,ut,lp,up,rfl,h1,h2,q⟩:=h;exact ⟨vW,vP,lt,ut,lp,up,rfl,h1.outside ho (by omega) (by omega),h2.outside ho (by omega) (by omega),q⟩
theorem RowMd.wide {w:World} {lo hi:Nat} {v:Value} {ts:List Th} {ps:List Den} (h:RowMd w lo hi v ts ps) {lo' hi':Nat} (a:lo'≤lo) (b:hi≤hi'):RowMd w lo' hi' v ts ps:=by
 obtain ⟨vW,vP,lt,ut,lp,up,rfl,h1,h2,q⟩:=h;exact ⟨vW,vP,lt,ut,lp,up,rfl,h1,h2,by omega⟩
theorem RdMd.form {w:World} {v:Value} {ts:List Th} {ps:List Den} (h:RdMd w v ts ps):∃ aW cW aP cP,v=.agg #[.slice aW ts.length cW,.slice aP ps.length cP]:=by
 obtain ⟨vW,vP,rfl,h1,h2⟩:=h;obtain ⟨aW,cW,rfl⟩:=h1.form;obtain ⟨aP,cP,rfl,-⟩:=h2.shape;exact ⟨aW,cW,aP,cP,rfl⟩
theorem zoy (v:Value) (ts:List Th) (ps:List Den) (w:World) (h:RdMd w v ts ps) (hw:ts.length≤1048576) (hg:∀ k (hk:k < ts.length),ts[k].pages.length≤1048576) (hp:ps.length≤1048576) :
  Calls Tryz.prog 35 #[v] w fun e w'=>∃ v',e=.returned v'∧RowMd w' w.heap.size w'.heap.size v' ts ps∧Below w.heap.size w w':=by
 obtain ⟨vW,vP,rfl,h1,h2⟩:=h;have H1:=zaa h1;have H2:=zaa h2;obtain ⟨aW,cW,eW⟩:=h1.form;obtain ⟨aP,cP,eP,_⟩:=h2.shape;clear h1 h2;subst eW eP;go_enter Tryz.func35,Tryz.ntmps35;go_wp2_with fail
 have hb0:Below w.heap.size w (((w.alloc (.cells #[.slice aW ts.length cW,.slice aP ps.length cP] 65)).alloc (.cells #[.slice none 0 0,.slice none 0 0] 40)).alloc (.cells #[.slice none 0 0,.slice none 0 0] 40)):=by
  repeat (refine Below.alloc ?_ (by simp <;> omega) _)
  exact Below.refl _ _
 refine (zmz _ ts _ (H1.o.below hb0) hw hg).mono ?_;rintro e w1 ⟨v1,rfl,hr1,hb1⟩;obtain ⟨a1,c1,rfl⟩:=hr1.rd.form
 have hz1:w.heap.size+3≤w1.heap.size:=by have:=hb1.size;simp at this;omega
 have V0:=(hb1.block w.heap.size (by simp <;> omega)).trans (zas (zas (zah rfl)));have V1:=(hb1.block (w.heap.size+1) (by simp <;> omega)).trans (zas (zah (by simp)));have V2:=(hb1.block (w.heap.size+1+1) (by simp <;> omega)).trans (zah (by simp));have B1:=zaa (hb0.trans (hb1.mono (by simp <;> omega)));have R1:=zaa hr1;obtain ⟨x1,x2,_,_⟩:=zae V0;obtain ⟨y1,y2,y3,y4⟩:=zae V2;have V2':=zfi V2 (.slice a1 ts.length c1);have V1':=(Below.heap_setCell w1 ⟨w.heap.size+1+1,0,none⟩ (.slice a1 ts.length c1) (w.heap.size+1) (by simp)).trans V1;have VH:=zaa (And.intro V1' V2');clear hb0 hb1 hr1 V0 V1 V2 V1' V2';go_wp2_with fail;have hb2:=B1.o.setCell (p:=⟨w.heap.size+1+1,0,none⟩) (by simp;omega) (.slice a1 ts.length c1);refine (zkn _ ps _ (Rd.below H2.o hb2) hp).mono ?_;rintro e w2 ⟨v2,rfl,hr2,hb3⟩;obtain ⟨_,a2,c2,rfl,_⟩:=hr2.rd
 have hz2:w1.heap.size≤w2.heap.size:=by have:=hb3.size;simpa using this
 have V1:=(hb3.block _ (by simp;omega)).trans VH.o.1;have V2:=(hb3.block _ (by simp;omega)).trans VH.o.2;have B2:=zaa (hb2.trans (hb3.mono (by simp;omega)));have K2:=zaa hb3;have R2:=zaa hr2;clear hb2 hb3 hr2;obtain ⟨z1,z2,z3,z4⟩:=zae V2;obtain ⟨t1,t2,t3,t4⟩:=zae V1;clear V1 V2;go_wp2;refine bodyPost_ret (v:=.agg #[.slice a1 ts.length c1,.slice a2 ps.length c2]) (by simp[results,Tryz.results35,go_sem,t1,t2]) rfl ?_;refine ⟨_,rfl,⟨_,_,w.heap.size+3,w1.heap.size,w1.heap.size,w2.heap.size,rfl,(R1.o.same fun b h1 h2=>?_).wide (by simp) (Nat.le_refl _),(R2.o.same fun b h1 h2=>?_).wide (by simp) (Nat.le_refl _),by omega,by simp;omega,by omega,by simp,.inl (Nat.le_refl _)⟩,?_⟩
 ·simp only[World.size_alloc] at h1;rw[Below.heap_setCell _ _ _ _ (by simp only;omega),Below.heap_setCell _ _ _ _ (by simp only;omega),Below.heap_setCell _ _ _ _ (by simp only;omega),K2.o.block b (by simp;omega),Below.heap_setCell _ _ _ _ (by simp only;omega)]
 ·simp at h1;rw[Below.heap_setCell _ _ _ _ (by simp only;omega),Below.heap_setCell _ _ _ _ (by simp only;omega),Below.heap_setCell _ _ _ _ (by simp only;omega)]
 ·exact ((B2.o.setCell (by simp only;omega) _).setCell (by simp only;omega) _).setCell (by simp only;omega) _
theorem znr (va vb:Value) (ts:List Th) (ps:List Den) (w:World) (ha:RdMd w va ts ps) (hb:RdMd w vb ts ps) (hw:ts.length≤2147483648) (hg:∀ k (hk:k < ts.length),ts[k].pages.length≤2147483648) (hp:ps.length≤2147483648) :
  Calls Tryz.prog 18 #[va,vb] w fun e w'=>e=.returned (.bool true)∧Below w.heap.size w w':=by
 obtain ⟨vW,vP,rfl,h1,h2⟩:=ha;obtain ⟨uW,uP,rfl,h3,h4⟩:=hb;obtain ⟨aW,cW,rfl⟩:=h1.form;obtain ⟨aP,cP,rfl,_⟩:=h2.shape;obtain ⟨bW,dW,rfl⟩:=h3.form;obtain ⟨bP,dP,rfl,_⟩:=h4.shape;have H1:=zaa h1;have H2:=zaa h2;have H3:=zaa h3;have H4:=zaa h4;clear h1 h2 h3 h4;go_enter Tryz.func18,Tryz.ntmps18;go_wp2_with fail
 have hb0:Below w.heap.size w ((w.alloc (.cells #[.slice aW ts.length cW,.slice aP ps.length cP] 40)).alloc (.cells #[.slice bW ts.length dW,.slice bP ps.length dP] 40)):=by
  repeat (refine Below.alloc ?_ (by simp <;> omega) _)
  exact Below.refl _ _
 refine (zkl _ _ ts _ (H1.o.below hb0) (H3.o.below hb0) hw hg).mono ?_;rintro e w1 ⟨rfl,hb1⟩
 have hz1:w.heap.size+2≤w1.heap.size:=by have:=hb1.size;simp at this;omega
 have V0:=(hb1.block w.heap.size (by simp <;> omega)).trans (zas (zah rfl));have V1:=(hb1.block (w.heap.size+1) (by simp <;> omega)).trans (zah (by simp));have B1:=hb0.trans (hb1.mono (by simp <;> omega));obtain ⟨x1,x2,_,_⟩:=zae V0;obtain ⟨y1,y2,_,_⟩:=zae V1;clear hb0 hb1 V0 V1;go_wp2_with fail;refine (zix _ _ ps _ (Rd.below H2.o B1) (Rd.below H4.o B1) hp).mono ?_;rintro e w2 ⟨rfl,hb2⟩;go_wp2;go_ret;exact ⟨rfl,B1.trans (hb2.mono (by omega))⟩
theorem zoq {ps:List Den} {left:Int} (h0:0≤left) (h1:left≤1048576) (h:¬ zbx ps ps.length left < 0):ps.length≤1048576:=by
 rcases Nat.lt_or_ge 1048576 ps.length with q | q
 ·exfalso;have:=zhy ps left h0 0 (by unfold zbx;rw[if_pos (by omega)];omega) ps.length;rw[Nat.zero_add] at this;omega
 ·exact q
theorem zpl (v:Value) (ts:List Th) (ps:List Den) (left:Int) (w:World) (h:RdMd w v ts ps) (hn:ts.length≤maxLen) (hg:∀ k (hk:k < ts.length),ts[k].pages.length≤maxLen) (hm:ps.length≤maxLen) (hs:∀ k (h:k < ps.length),ps[k].name.size≤maxLen) (h0:0≤left) (h1:left≤1048576) :
  Calls Tryz.prog 28 #[v,.int .i64 left] w fun e w'=>∃ r:Int,e=.returned (.int .i64 r)∧(0≤r→(ts.length+zez ts≤1048576∧ps.length≤1048576)∧r≤1048576)∧-1≤r∧Below w.heap.size w w':=by
 obtain ⟨vW,vP,rfl,hI,hD⟩:=h;have LT:=zaa (fun w1 (hb:Below w.heap.size w w1)=>zof vW ts left w1 (hI.below hb) hn hg h0 h1);have LD:=zaa (fun (q:Int) w1 (hb:Below w.heap.size w w1) (a:0≤q) (b:q≤1048576)=>zkz vP ps q w1 (Rd.below hD hb) hm hs a b);obtain ⟨aW,cW,hvW⟩:=hI.form;obtain ⟨aP,cP,hvP,_⟩:=hD.shape;subst hvW hvP;clear hI hD hs hm hg hn
 obtain ⟨W,hW⟩:∃ W:World,W=w.alloc (.cells #[.slice aW ts.length cW,.slice aP ps.length cP] 65):=⟨_,rfl⟩
 have BW:Hid (Below w.heap.size w W):=by rw[hW];exact (Below.refl _ _).alloc (Nat.le_refl _) _
 have VW:Hid (W.heap[w.heap.size]?=some (.cells #[.slice aW ts.length cW,.slice aP ps.length cP] 65 (0,0))):=by rw[hW];exact zah rfl
 have hz:w.heap.size < W.heap.size:=by rw[hW];simp
 go_enter Tryz.func28,Tryz.ntmps28;go_wp2_with fail;rw[← hW];clear hW;refine (LT.o W BW.o).mono ?_;rintro e w1 ⟨q,rfl,hq,hq1,hb1⟩;have B1:=zaa (zab BW.o hb1 BW.o.size);have V1:=zaa ((hb1.block _ hz).trans VW.o);have HQ:=zaa hq;clear hb1 LT hq
 by_cases c:q < 0
 ·clear LD;go_wp2;go_ret;exact ⟨_,rfl,fun z=>absurd z (by decide),by decide,B1.o⟩
 ·obtain ⟨x0,x1,_,_⟩:=zae V1.o;have hq2:=HQ.o (by omega);have hq3:=hq2.2;have HT:=zaa hq2.1;clear hq2;go_wp2_with fail;refine (LD.o q w1 B1.o (by omega) hq3).mono ?_;rintro e w2 ⟨rfl,hb2⟩;have rl:=zhi ps q (by omega) ps.length;have RS:=zaa (fun z=>zoq (ps:=ps) (left:=q) (by omega) hq3 z);have B2:=zaa (zab B1.o hb2 B1.o.size);clear hb2 LD x0 x1;generalize zbx ps ps.length q=r at *
  by_cases d:r < 0
  ·have:r=-1:=by omega
   subst this;go_wp2;go_ret;exact ⟨_,rfl,fun z=>absurd z (by decide),by decide,B2.o⟩
  ·go_wp2;go_ret;exact ⟨_,rfl,fun _=>⟨⟨HT.o,RS.o d⟩,by omega⟩,by omega,B2.o⟩
theorem zzn (k:Int) (p t:ByteArray) (g x:Int) (w:World):Calls Tryz.prog 36 #[.agg #[.int .i64 k,.string p,.string t,.int .i64 g,.int .i64 x]] w fun e w'=>e=.returned (.agg #[.int .i64 k,.string p,.string t,.int .i64 g,.int .i64 x])∧Below w.heap.size w w':=by
 go_enter Tryz.func36,Tryz.ntmps36;go_wp2;refine bodyPost_ret (v:=.agg #[.int .i64 k,.string p,.string t,.int .i64 g,.int .i64 x]) (by simp[results,Tryz.results36,go_sem]) rfl ⟨rfl,?_⟩
 repeat (first | exact Below.refl _ _ | refine Below.setCell ?_ (by simp only;omega) _ | refine Below.alloc ?_ (by simp <;> omega) _)
def opZ (p t:ByteArray) (left:Int):Int:=if left < (p.size:Int)+(t.size:Int) then -1 else left - (p.size:Int) - (t.size:Int)
theorem zyj (k:Int) (p t:ByteArray) (g x left:Int) (w:World) (hp:p.size≤maxLen) (ht:t.size≤maxLen) (h0:0≤left) (h1:left≤1048576):Calls Tryz.prog 29 #[.agg #[.int .i64 k,.string p,.string t,.int .i64 g,.int .i64 x],.int .i64 left] w fun e w'=>e=.returned (.int .i64 (opZ p t left))∧Below w.heap.size w w':=by
 unfold maxLen at hp ht;have EO:=zaa (show opZ p t left=if left < (p.size:Int)+(t.size:Int) then -1 else left - (p.size:Int) - (t.size:Int) from rfl);have BW:=zaa ((Below.refl w.heap.size w).alloc (Nat.le_refl _) (.cells #[.int .i64 k,.string p,.string t,.int .i64 g,.int .i64 x] 66));generalize opZ p t left=r at *
 by_cases c:left < (p.size:Int)
 ·rw[if_pos (by omega)] at EO;obtain rfl:=EO.o
  have c':left - (p.size:Int) < 0:=by omega
  go_enter Tryz.func29,Tryz.ntmps29;go_wp2;go_ret;exact ⟨rfl,BW.o⟩
 have c':¬ left - (p.size:Int) < 0:=by omega
 by_cases d:left < (p.size:Int)+(t.size:Int)
 ·rw[if_pos d] at EO;obtain rfl:=EO.o
  have d':left - (p.size:Int) - (t.size:Int) < 0:=by omega
  go_enter Tryz.func29,Tryz.ntmps29;go_wp2;go_ret;exact ⟨rfl,BW.o⟩
 ·rw[if_neg d] at EO;obtain rfl:=EO.o
  have d':¬ left - (p.size:Int) - (t.size:Int) < 0:=by omega
  go_enter Tryz.func29,Tryz.ntmps29;go_wp2;go_ret;exact ⟨rfl,BW.o⟩
end Go.Proofs.YtbohndgbfbfldaaGreatDoor
