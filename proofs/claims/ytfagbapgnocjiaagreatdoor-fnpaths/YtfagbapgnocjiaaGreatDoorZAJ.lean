import Derived.Test.YtfagbapgnocjiaaGreatDoorZAI
import Derived.Test.YtfagbapgnocjiaaGreatDoorZAH
import Derived.Laws.CopyRow
import Derived.Laws.CopyOwn
set_option maxRecDepth 100000
set_option maxHeartbeats 4000000
namespace Go.Proofs.YtfagbapgnocjiaaGreatDoor
open Go.RowKit
theorem eq8(a0 a1 a2 a3 a4 a5 a6 a7 b0 b1 b2 b3 b4 b5 b6 b7:Int)(w:World):(Op.equalIn 9999 39 (.agg #[.I a0,.I a1,.I a2,.I a3,.I a4,.I a5,.I a6,.I a7]) (.agg #[.I b0,.I b1,.I b2,.I b3,.I b4,.I b5,.I b6,.I b7])).run Tryz.prog w=.ok (decide ([a0,a1,a2,a3,a4,a5,a6,a7]=[b0,b1,b2,b3,b4,b5,b6,b7])) w:=by
 have U3:=Tryz.underlying3;have A3:=Tryz.isAgg3;have Z3:=Tryz.sizeOf3;rw[show(9999:Nat)=9998+1 from rfl,Op.equalIn];simp only[Sem.run_bind,run_underlying Tryz.underlying39,Result.andThen_ok];simp only[Std.Legacy.Range.forIn_eq_forIn_range',Std.Legacy.Range.size,Nat.sub_zero,Nat.add_sub_cancel,Nat.div_one,List.range'_succ,List.range'_zero,List.forIn_cons,List.forIn_nil];go_simp
 by_cases h0:a0=b0
 case neg=>simp[h0]
 by_cases h1:a1=b1
 case neg=>simp[h0,h1]
 by_cases h2:a2=b2
 case neg=>simp[h0,h1,h2]
 by_cases h3:a3=b3
 case neg=>simp[h0,h1,h2,h3]
 by_cases h4:a4=b4
 case neg=>simp[h0,h1,h2,h3,h4]
 by_cases h5:a5=b5
 case neg=>simp[h0,h1,h2,h3,h4,h5]
 by_cases h6:a6=b6
 case neg=>simp[h0,h1,h2,h3,h4,h5,h6]
 by_cases h7:a7=b7
 case neg=>simp[h0,h1,h2,h3,h4,h5,h6,h7]
 simp[h0,h1,h2,h3,h4,h5,h6,h7]
def zvp(xs ys:List Int):Bool:=decide (xs=ys)
theorem yaii{xs ys:List Int}(h:xs=ys):zvp xs ys=true:=decide_eq_true h
theorem yajl{xs ys:List Int}(h:¬ xs=ys):zvp xs ys=false:=decide_eq_false h
@[go_sem ↓] theorem yaun(k s l a0 a1 a2 a3 a4 a5 a6 a7 k' s' l' b0 b1 b2 b3 b4 b5 b6 b7:Int)(w:World):(Op.equalIn 10000 41 (.agg #[.I k,.I s,.I l,.I a0,.I a1,.I a2,.I a3,.I a4,.I a5,.I a6,.I a7]) (.agg #[.I k',.I s',.I l',.I b0,.I b1,.I b2,.I b3,.I b4,.I b5,.I b6,.I b7])).run Tryz.prog w=.ok (zvp [k,s,l,a0,a1,a2,a3,a4,a5,a6,a7] [k',s',l',b0,b1,b2,b3,b4,b5,b6,b7]) w:=by
 have e8:=eq8 a0 a1 a2 a3 a4 a5 a6 a7 b0 b1 b2 b3 b4 b5 b6 b7 w;unfold zvp
 by_cases g0:k=k'
 case neg=>go_simp
 by_cases g1:s=s'
 case neg=>go_simp
 by_cases g2:l=l'
 case neg=>go_simp
 subst g0 g1 g2;go_simp
 split
 ·rename_i h;rw[h]
 ·rename_i h;rw[Bool.not_eq_false]at h;rw[h]
theorem zwv(x:Ino)(w:World)(hT:TS w)(hE:ED w)(hr:x.R):zC 69 #[x.v] w fun e w'=>e=.returned (.bool (zdp x))/\zB w w':=by
 have hv:x.v=.agg x.cs.toArray:=rfl;have BW:Hid (zB w (w.alloc (.cells x.cs.toArray 41))):=zR.alloc zL _
 have CA:Hid (∀ j,(w.alloc (.cells x.cs.toArray 41)).cell? ⟨w.heap.size,j,none⟩=x.cs[j]?):=fun j=>(zat (xs:=x.cs) (zai rfl) j).1
 have T:Hid (TS (w.alloc (.cells x.cs.toArray 41))):=hT.below BW.o;obtain⟨d0,d1,d2,d3,d4,d5,d6,d7,d8,d9,d10⟩:=ED.cells (hE.below BW.o);obtain⟨p0,p1,p2,p3,p4,p5,p6,p7,p8,p9,p10⟩:=Ino.all CA.o;have LF:=zaa (fun w1 (h:TS w1)=>yabd x w1 h hr);rw[hv];clear hT hE hr CA
 by_cases h0:x.ns=[0,0,0,0,0,0,0,0,0,0,0]
 ·have E:=zaa (yahf h0);have q1:zvp [x.kind,x.size,x.links,x.m0,x.m1,x.m2,x.m3,x.m4,x.m5,x.m6,x.m7] [0,0,0,0,0,0,0,0,0,0,0]=true:=yaii h0;clear h0;go_enter Tryz.func69,Tryz.ntmps69;go_wp2;go_ret;exact⟨zah E.o.symm,BW.o⟩
 have q1:zvp [x.kind,x.size,x.links,x.m0,x.m1,x.m2,x.m3,x.m4,x.m5,x.m6,x.m7] [0,0,0,0,0,0,0,0,0,0,0]=false:=yajl h0
 by_cases h1:x.ns=[2,0,1,0,0,0,0,0,0,0,0]
 ·have E:=zaa (yapx h1);have q2:zvp [x.kind,x.size,x.links,x.m0,x.m1,x.m2,x.m3,x.m4,x.m5,x.m6,x.m7] [2,0,1,0,0,0,0,0,0,0,0]=true:=yaii h1;clear h0 h1;go_enter Tryz.func69,Tryz.ntmps69;go_wp2;go_ret;exact⟨zah E.o.symm,BW.o⟩
 have q2:zvp [x.kind,x.size,x.links,x.m0,x.m1,x.m2,x.m3,x.m4,x.m5,x.m6,x.m7] [2,0,1,0,0,0,0,0,0,0,0]=false:=yajl h1;have E:=zaa (yals h0 h1);clear h0 h1;go_enter Tryz.func69,Tryz.ntmps69;go_wp2_with fail;refine(LF.o _ T.o).mono ?_;rw[E.o];rintro e w1 ⟨rfl,hb1⟩;have B1:=zaa (zab BW.o hb1 BW.o.size);clear hb1;go_wp2;go_ret;exact⟨rfl,B1.o⟩
def FD(w:World):Prop:=∃ t fr,w.heap[0]?=some (.cells #[.I 0,.string ⟨#[]⟩,.I (-1)] t fr)
theorem FD.lt{w:World}(h:FD w):0<w.heap.size:=by
 obtain⟨t,fr,h⟩:=h;exact(Array.getElem?_eq_some_iff.1 h).1
theorem FD.below{w w':World}(h:FD w)(hb:zB w w'):FD w':=by
 have hl:=h.lt;obtain⟨t,fr,h⟩:=h;exact⟨t,fr,(hb.block _ hl).trans h⟩
theorem FD.cells{w:World}(h:FD w):w.cell? ⟨0,0,none⟩=some (.I 0)/\w.cell? ⟨0,1,none⟩=some (.string ⟨#[]⟩)/\w.cell? ⟨0,2,none⟩=some (.I (-1)):=by
 obtain⟨t,fr,h⟩:=h;simp[World.cell?,h]
def zky(a:Int)(s:ByteArray)(c a':Int)(s':ByteArray)(c':Int):Bool:=(a == a')&&((s.toList == s'.toList)&&(c == c'))
@[go_sem ↓] theorem yauj(a:Int)(s:ByteArray)(c a':Int)(s':ByteArray)(c':Int)(w:World):(Op.equalIn 10000 52 (.agg #[.I a,.string s,.I c]) (.agg #[.I a',.string s',.I c'])).run Tryz.prog w=.ok (zky a s c a' s' c') w:=by
 unfold zky
 cases g0:(a == a')
 ·go_simp
 cases g1:(s.toList == s'.toList)
 ·go_simp
 cases g2:(c == c')
 ·go_simp
 ·go_simp
theorem zxy:(⟨#[]⟩:ByteArray).toList=[]:=(yahb _).2 rfl
theorem zqu(x:Den):zky x.dir x.name x.child 0 ⟨#[]⟩ (-1)=x.freeB:=by
 unfold zky Den.freeB
 congr 2
 rw[zxy,Bool.eq_iff_iff,beq_iff_eq,beq_iff_eq];exact yahb x.name
theorem Den.okB_free{x:Den}(h:x.freeB=true):x.okB=true:=by unfold Den.okB;rw[h];rfl
theorem Den.okB_not{x:Den}(h:x.freeB=false):x.okB=(decide (1<=x.child/\x.child<=15)&&(decide (0<=x.dir/\x.dir<=15)&&nmB x.name)):=by unfold Den.okB;rw[h,Bool.false_or]
theorem yabz(s:ByteArray):(zpa s == 0)=nmB s:=by
 unfold zpa
 cases h:nmB s with
 | true =>
  have:=(of_decide_eq_true h:1<=s.size/\s.size<=6/\_)
  rw[if_neg (by omega),if_pos rfl];rfl
 | false =>
  split
  ·rfl
  ·rw[if_neg (by decide)];rfl
theorem zha(s:ByteArray)(w:World)(hs:s.size<=maxLen):zC 29 #[.string s] w fun e w'=>e=.returned (.bool (nmB s))/\zB w w':=by
 have P:=zaa (yabz s);have LP:=zaa (fun w1=>zkz s w1 hs);generalize zki s=pv at *;generalize zpa s=pc at *;clear hs;go_enter Tryz.func29,Tryz.ntmps29;go_wp2_with fail;refine(LP.o _).mono ?_;rintro e w1 ⟨rfl,hb1⟩;go_wp2;go_ret;exact⟨zah P.o,hb1⟩
theorem zvx(x:Den)(w:World)(hF:FD w)(hs:x.name.size<=maxLen):zC 71 #[x.v] w fun e w'=>e=.returned (.bool x.okB)/\zB w w':=by
 have LN:=zaa (fun w1=>zha x.name w1 hs);have DF:=zqu x;have OF:=@Den.okB_free x;have ON:=@Den.okB_not x;obtain⟨d,s,c⟩:=x;simp only at LN DF ON hs;unfold Den.v;simp only;have BW:=zaa ((Below.refl w.heap.size w).alloc zL (.cells #[.I d,.string s,.I c] 52))
 have CB:Hid (∀ w',Below (w.alloc (.cells #[.I d,.string s,.I c] 52)).heap.size (w.alloc (.cells #[.I d,.string s,.I c] 52)) w'->w'.cell? ⟨w.heap.size,0,none⟩=some (.I d)/\w'.cell? ⟨w.heap.size,1,none⟩=some (.string s)/\w'.cell? ⟨w.heap.size,2,none⟩=some (.I c)):=fun w' hb=>zaz ((hb.block _ (by simp)).trans (zai rfl))
 obtain⟨x0,x1,x2⟩:=CB.o _ zR;obtain⟨f0,f1,f2⟩:=FD.cells (hF.below BW.o);clear hF hs
 cases h0:(Den.mk d s c).freeB with
 | true =>
  rw[h0]at DF;have E:=zaa (OF h0);clear OF ON LN CB h0;go_enter Tryz.func71,Tryz.ntmps71;go_wp2;go_ret;exact⟨zah E.o.symm,BW.o⟩
 | false =>
  rw[h0]at DF;have E:=zaa (ON h0);clear OF ON h0
  cases h1:nmB s with
  | false =>
   rw[h1]at E;have N1:=zaa h1;clear h1 CB;go_enter Tryz.func71,Tryz.ntmps71;go_wp2_with fail;refine(LN.o _).mono ?_;rw[N1.o];rintro e w1 ⟨rfl,hb1⟩;have B1:=zaa (zab BW.o hb1 BW.o.size);clear hb1 x0 x1 x2 f0 f1 f2;go_wp2;go_ret;exact⟨zah (by rw[E.o,Bool.and_false,Bool.and_false]),B1.o⟩
  | true =>
   rw[h1]at E;have N1:=zaa h1;clear h1
   by_cases h2:0<=d/\d<16
   case neg =>
    have E2:=zaa (show(Den.mk d s c).okB=false by rw[E.o,decide_eq_false (show ¬ (0<=d/\d<=15) by omega),Bool.false_and,Bool.and_false]);have H2:=zaa h2;clear h2 E;go_enter Tryz.func71,Tryz.ntmps71;go_wp2_with fail;refine(LN.o _).mono ?_;rw[N1.o];rintro e w1 ⟨rfl,hb1⟩;have B1:=zaa (zab BW.o hb1 BW.o.size);clear x0 x1 x2 f0 f1 f2;obtain⟨x0,x1,x2⟩:=CB.o _ hb1;clear hb1 CB;go_wp2_with fail;refine(zdy _ _ _ H2.o).mono ?_;rintro e w' ⟨rfl,hw'⟩;subst w';go_wp2;go_ret;exact⟨zah E2.o.symm,B1.o⟩
   by_cases h3:0<=c/\c<16
   case neg =>
    have E2:=zaa (show(Den.mk d s c).okB=false by rw[E.o,decide_eq_false (show ¬ (1<=c/\c<=15) by omega),Bool.false_and]);have H2:=zaa h2;have H3:=zaa h3;clear h2 h3 E;go_enter Tryz.func71,Tryz.ntmps71;go_wp2_with fail;refine(LN.o _).mono ?_;rw[N1.o];rintro e w1 ⟨rfl,hb1⟩;have B1:=zaa (zab BW.o hb1 BW.o.size);clear x0 x1 x2 f0 f1 f2;obtain⟨x0,x1,x2⟩:=CB.o _ hb1;clear hb1 CB;go_wp2_with fail;refine(zba _ _ _ H2.o).mono ?_;rintro e w' ⟨rfl,hw'⟩;subst w';go_wp2_with fail;refine(zdy _ _ _ H3.o).mono ?_;rintro e w' ⟨rfl,hw'⟩;subst w';go_wp2;go_ret;exact⟨zah E2.o.symm,B1.o⟩
   have E2:=zaa (show(Den.mk d s c).okB=(c != 0) by
    rw[E.o,decide_eq_true (show 0<=d/\d<=15 by omega)]
    by_cases h:c=0
    ·rw[h];rfl
    ·rw[decide_eq_true (show 1<=c/\c<=15 by omega),eq_comm];simpa using h)
   have H2:=zaa h2;have H3:=zaa h3;clear h2 h3 E;go_enter Tryz.func71,Tryz.ntmps71;go_wp2_with fail;refine(LN.o _).mono ?_;rw[N1.o];rintro e w1 ⟨rfl,hb1⟩;have B1:=zaa (zab BW.o hb1 BW.o.size);clear x0 x1 x2 f0 f1 f2;obtain⟨x0,x1,x2⟩:=CB.o _ hb1;clear hb1 CB;go_wp2_with fail;refine(zba _ _ _ H2.o).mono ?_;rintro e w' ⟨rfl,hw'⟩;subst w';go_wp2_with fail;refine(zba _ _ _ H3.o).mono ?_;rintro e w' ⟨rfl,hw'⟩;subst w';go_wp2;go_ret;exact⟨zah E2.o.symm,B1.o⟩
theorem yapw{s:ByteArray}(h:s.size=0):pk s s.size=0:=by
 rw[h];rfl
end Go.Proofs.YtfagbapgnocjiaaGreatDoor
