import Derived.Test.YtogcbbkhnpmgeaaGreatDoorZAI
set_option maxRecDepth 100000
set_option maxHeartbeats 4000000
namespace Go.Proofs.YtogcbbkhnpmgeaaGreatDoor
open Go.RowKit
theorem eq8(a0 a1 a2 a3 a4 a5 a6 a7 b0 b1 b2 b3 b4 b5 b6 b7:Int)(w:World):(Op.equalIn 9999 85 (.agg #[.I a0,.I a1,.I a2,.I a3,.I a4,.I a5,.I a6,.I a7]) (.agg #[.I b0,.I b1,.I b2,.I b3,.I b4,.I b5,.I b6,.I b7])).run Tryz.prog w=.ok (decide ([a0,a1,a2,a3,a4,a5,a6,a7]=[b0,b1,b2,b3,b4,b5,b6,b7])) w:=by
 have U3:=Tryz.underlying3;have A3:=Tryz.isAgg3;have Z3:=Tryz.sizeOf3;rw[show(9999:Nat)=9998+1 from rfl,Op.equalIn];simp only[Sem.run_bind,run_underlying Tryz.underlying85,Result.andThen_ok];simp only[Std.Legacy.Range.forIn_eq_forIn_range',Std.Legacy.Range.size,Nat.sub_zero,Nat.add_sub_cancel,Nat.div_one,List.range'_succ,List.range'_zero,List.forIn_cons,List.forIn_nil];go_simp
 by_cases h0:a0=b0
 case neg=>simp[h0]
 by_cases h1:a1=b1
 case neg=>simp[h0,h1]
 by_cases h2:a2=b2
 case neg=>simp[h0,h1,h2]
 by_cases h3:a3=b3
 case neg=>simp[h0,h1,h2,h3]
 by_cases h4:a4=b4
 case neg=>simp[h0,h1,h2,h3,h4]
 by_cases h5:a5=b5
 case neg=>simp[h0,h1,h2,h3,h4,h5]
 by_cases h6:a6=b6
 case neg=>simp[h0,h1,h2,h3,h4,h5,h6]
 by_cases h7:a7=b7
 case neg=>simp[h0,h1,h2,h3,h4,h5,h6,h7]
 simp[h0,h1,h2,h3,h4,h5,h6,h7]
def zhb(xs ys:List Int):Bool:=decide (xs=ys)
theorem yadt{xs ys:List Int}(h:xs=ys):zhb xs ys=true:=decide_eq_true h
theorem yacp{xs ys:List Int}(h:¬ xs=ys):zhb xs ys=false:=decide_eq_false h
@[go_sem ↓] theorem ybeq(k s l a0 a1 a2 a3 a4 a5 a6 a7 k' s' l' b0 b1 b2 b3 b4 b5 b6 b7:Int)(w:World):(Op.equalIn 10000 87 (.agg #[.I k,.I s,.I l,.I a0,.I a1,.I a2,.I a3,.I a4,.I a5,.I a6,.I a7]) (.agg #[.I k',.I s',.I l',.I b0,.I b1,.I b2,.I b3,.I b4,.I b5,.I b6,.I b7])).run Tryz.prog w=.ok (zhb [k,s,l,a0,a1,a2,a3,a4,a5,a6,a7] [k',s',l',b0,b1,b2,b3,b4,b5,b6,b7]) w:=by
 have e8:=eq8 a0 a1 a2 a3 a4 a5 a6 a7 b0 b1 b2 b3 b4 b5 b6 b7 w;unfold zhb
 by_cases g0:k=k'
 case neg=>go_simp
 by_cases g1:s=s'
 case neg=>go_simp
 by_cases g2:l=l'
 case neg=>go_simp
 subst g0 g1 g2;go_simp
 split
 ·rename_i h;rw[h]
 ·rename_i h;rw[Bool.not_eq_false]at h;rw[h]
theorem zsg(x:Ino)(w:World)(hT:TS w)(hE:ED w)(hr:x.R):zC 113 #[x.v] w fun e w'=>e=.returned (.bool (zed x))/\zB w w':=by
 have hv:x.v=.agg x.cs.toArray:=rfl;have BW:Hid (zB w (w.alloc (.cells x.cs.toArray 87))):=zR.alloc zL _
 have CA:Hid (∀ j,(w.alloc (.cells x.cs.toArray 87)).cell? ⟨w.heap.size,j,none⟩=x.cs[j]?):=fun j=>(zag (xs:=x.cs) (zaf rfl) j).1
 have T:Hid (TS (w.alloc (.cells x.cs.toArray 87))):=hT.below BW.o;obtain⟨d0,d1,d2,d3,d4,d5,d6,d7,d8,d9,d10⟩:=ED.cells (hE.below BW.o);obtain⟨p0,p1,p2,p3,p4,p5,p6,p7,p8,p9,p10⟩:=Ino.all CA.o;have LF:=zaa (fun w1 (h:TS w1)=>yaiy x w1 h hr);rw[hv];clear hT hE hr CA
 by_cases h0:x.ns=[0,0,0,0,0,0,0,0,0,0,0]
 ·have E:=zaa (yape h0);have q1:zhb [x.kind,x.size,x.links,x.m0,x.m1,x.m2,x.m3,x.m4,x.m5,x.m6,x.m7] [0,0,0,0,0,0,0,0,0,0,0]=true:=yadt h0;clear h0;go_enter Tryz.func113,Tryz.ntmps113;go_wp2;go_ret;exact⟨zai E.o.symm,BW.o⟩
 have q1:zhb [x.kind,x.size,x.links,x.m0,x.m1,x.m2,x.m3,x.m4,x.m5,x.m6,x.m7] [0,0,0,0,0,0,0,0,0,0,0]=false:=yacp h0
 by_cases h1:x.ns=[2,0,1,0,0,0,0,0,0,0,0]
 ·have E:=zaa (yaxo h1);have q2:zhb [x.kind,x.size,x.links,x.m0,x.m1,x.m2,x.m3,x.m4,x.m5,x.m6,x.m7] [2,0,1,0,0,0,0,0,0,0,0]=true:=yadt h1;clear h0 h1;go_enter Tryz.func113,Tryz.ntmps113;go_wp2;go_ret;exact⟨zai E.o.symm,BW.o⟩
 have q2:zhb [x.kind,x.size,x.links,x.m0,x.m1,x.m2,x.m3,x.m4,x.m5,x.m6,x.m7] [2,0,1,0,0,0,0,0,0,0,0]=false:=yacp h1;have E:=zaa (yavc h0 h1);clear h0 h1;go_enter Tryz.func113,Tryz.ntmps113;go_wp2_with fail;refine(LF.o _ T.o).mono ?_;rw[E.o];rintro e w1 ⟨rfl,hb1⟩;have B1:=zaa (zab BW.o hb1 BW.o.size);clear hb1;go_wp2;go_ret;exact⟨rfl,B1.o⟩
theorem yait(b:Nat)(w:World):(Instr.sliceAt 268 (.pointer (some ⟨b,0,none⟩)) (some (.I 3)) none none).run Tryz.prog w=.ok (.slice (some ⟨b,3,none⟩) 8 8) w:=by
 have al:Tryz.prog.arrayLen 268=11:=by kernel_rfl
 rw[run_sliceAt_array_l w 268 ⟨b,0,none⟩ (by kernel_rfl) .i64 3 (by omega) (by rw[al];omega),al]
 have sz:(sizeOf (Tryz.prog.elem 268)).run Tryz.prog w=.ok 1 w:=by kernel_rfl
 rw[sz];simp[Result.andThen,slicedAt,Addr.add]
theorem yapo(b:Nat)(w:World):(Instr.sliceAt 268 (.pointer (some ⟨b,0,none⟩)) none none none).run Tryz.prog w=.ok (.slice (some ⟨b,0,none⟩) 11 11) w:=by
 have al:Tryz.prog.arrayLen 268=11:=by kernel_rfl
 rw[run_sliceAt_array_all w 268 ⟨b,0,none⟩ (by kernel_rfl),al]
 have sz:(sizeOf (Tryz.prog.elem 268)).run Tryz.prog w=.ok 1 w:=by kernel_rfl
 rw[sz];simp[Result.andThen,slicedAt,Addr.add]
theorem yayf(b:Nat)(w:World):(Instr.sliceAt 85 (.pointer (some ⟨b,3,none⟩)) none none none).run Tryz.prog w=.ok (.slice (some ⟨b,3,none⟩) 8 8) w:=by
 have al:Tryz.prog.arrayLen 85=8:=by kernel_rfl
 rw[run_sliceAt_array_all w 85 ⟨b,3,none⟩ (by kernel_rfl),al]
 have sz:(sizeOf (Tryz.prog.elem 85)).run Tryz.prog w=.ok 1 w:=by kernel_rfl
 rw[sz];simp[Result.andThen,slicedAt,Addr.add]
def preC(x:Ino):List Value:=[.I x.kind,.I x.size,.I x.links,.I 0,.I 0,.I 0,.I 0,.I 0,.I 0,.I 0,.I 0]
def mapC(x:Ino):List Value:=[.I x.m0,.I x.m1,.I x.m2,.I x.m3,.I x.m4,.I x.m5,.I x.m6,.I x.m7]
theorem yajj(x:Ino):splice (preC x) 3 (mapC x)=x.cs:=rfl
theorem yarm(x:Ino):∀ v∈mapC x,v.oneCell'=true:=by
 intro v hv;simp[mapC]at hv
 rcases hv with rfl|rfl|rfl|rfl|rfl|rfl|rfl|rfl<;>rfl
theorem yaxy(x:Ino)(j:Nat)(v:Value)(h:(mapC x)[j]?=some v):x.cs[3+j]?=some v:=by
 have hj:j<8:=by
  have:=(List.getElem?_eq_some_iff.1 h).1;exact this
 rcases(show j=0\/j=1\/j=2\/j=3\/j=4\/j=5\/j=6\/j=7 by omega)with rfl|rfl|rfl|rfl|rfl|rfl|rfl|rfl<;>exact h
theorem ybef(x:Ino):zeg x.ns=x.cs:=rfl
theorem ybdp{x:Ino}{w:World}{b:Nat}{t:TypeId}(h:w.heap[b]?=some (.cells x.cs.toArray t (0,0))):RdI w (.slice (some ⟨b,0,none⟩) 11 11) x.ns:=by
 refine⟨by rw[zii,Nat.mul_one],some ⟨b,0,none⟩,11,rfl,⟨Nat.le_refl _,fun e=>by cases e⟩,fun _=>⟨b,0,rfl,(Array.getElem?_eq_some_iff.1 h).1,fun j hj=>?_⟩⟩;rw[Nat.zero_add,ybef];exact(zag (xs:=x.cs) h j).1
theorem ybek(i:Int)(x:Ino):ufL (48+12*i) x.ns x.ns.length=wrL i x 8:=by
 have e1:x.ns.length=11:=rfl;rw[e1];simp[ufL,wrL,List.range_succ,Ino.ns,Ino.map]
theorem sz3:(Tryz.prog.info? 3).map (·.size)=some 1:=by kernel_rfl
theorem zki(i:Int)(x:Ino)(w:World)(hT:TS w)(hE:ED w)(hr:x.R) :
  zC 235 #[.I i,x.v] w fun e w'=>∃ v',e=.returned (.tuple #[v',.I (iuC i x)])/\Row w' 104 2 w.heap.size w'.heap.size v' (iuL i x).length (ses (iuL i x))/\zB w w':=by
 have hv:x.v=.agg x.cs.toArray:=rfl;have BW:Hid (zB w (w.alloc (.cells x.cs.toArray 87))):=zR.alloc zL _
 have CA:Hid (∀ w',Below (w.alloc (.cells x.cs.toArray 87)).heap.size (w.alloc (.cells x.cs.toArray 87)) w'->∀ j,w'.cell? ⟨w.heap.size,j,none⟩=x.cs[j]?):=fun w' hb j=>by
  have:w'.heap[w.heap.size]?=some (.cells x.cs.toArray 87 (0,0)):=(hb.block _ (by simp)).trans (zaf rfl);exact(zag (xs:=x.cs) this j).1
 have T:Hid (TS (w.alloc (.cells x.cs.toArray 87))):=hT.below BW.o;have TE:Hid (ED (w.alloc (.cells x.cs.toArray 87))):=hE.below BW.o;have LF:=zaa (fun w1 (h:TS w1) (g:ED w1)=>zsg x w1 h g hr)
 have hz:w.heap.size<(w.alloc (.cells x.cs.toArray 87)).heap.size:=by simp
 obtain⟨W,hW⟩:=zE (w.alloc (.cells x.cs.toArray 87))
 rw[<- hW]at BW CA T TE hz;rw[hv];clear hT hE hr
 rcases yarr i x with ⟨c1,e1,e2⟩ | ⟨c1,c2,e1,e2⟩ | ⟨c1,c2,e1,e2⟩
 ·rw[e1,e2];obtain⟨k1,k2⟩:=yacj (i:=i) (f:=0) (by omega);have K1:=zaa k1;have K2:=zaa k2;clear e1 e2 c1 k1 k2;go_enter Tryz.func235,Tryz.ntmps235;go_wp2_with fail;rw[<- hW];clear hW;refine(zfo _ _ _).mono ?_;rw[K2.o];rintro e w' ⟨rfl,hw'⟩;subst w';go_wp2;go_ret2;exact⟨_,rfl,Row.nil _ _ _ _ _,BW.o⟩
 ·rw[e1,e2];obtain⟨k1,k2⟩:=yago (i:=i) (f:=0) (by omega) (by omega);have K1:=zaa k1;have K2:=zaa k2;have C2:=zaa c2;clear e1 e2 c1 c2 k1 k2;go_enter Tryz.func235,Tryz.ntmps235;go_wp2_with fail;rw[<- hW];clear hW;refine(zfo _ _ _).mono ?_;rw[K1.o,K2.o];rintro e w' ⟨rfl,hw'⟩;subst w';obtain⟨p0,p1,p2,p3,p4,p5,p6,p7,p8,p9,p10⟩:=Ino.all (CA.o W zR);go_wp2_with fail;refine(LF.o _ T.o TE.o).mono ?_;rw[C2.o];rintro e w1 ⟨rfl,hb⟩;have B1:=zaa (zab BW.o hb (by omega));clear hb p0 p1 p2 p3 p4 p5 p6 p7 p8 p9 p10;go_wp2;go_ret2;exact⟨_,rfl,Row.nil _ _ _ _ _,B1.o⟩
 ·rw[e1,e2];obtain⟨k1,k2⟩:=yago (i:=i) (f:=0) (by omega) (by omega);have K1:=zaa k1;have K2:=zaa k2;have C2:=zaa c2;have UF:=zaa (ybek i x);have RA:=zaa (show 0<=48+12*i/\48+12*i<=1000 by omega);clear e1 e2 c1 c2 k1 k2;go_enter Tryz.func235,Tryz.ntmps235;go_wp2_with fail;rw[<- hW];clear hW;refine(zfo _ _ _).mono ?_;rw[K1.o,K2.o];rintro e w' ⟨rfl,hw'⟩;subst w';obtain⟨p0,p1,p2,p3,p4,p5,p6,p7,p8,p9,p10⟩:=Ino.all (CA.o W zR);go_wp2_with fail;refine(LF.o _ T.o TE.o).mono ?_;rw[C2.o];rintro e w1 ⟨rfl,hb⟩;have B1:=zaa (zab BW.o hb (by omega));have hz1:W.heap.size<=w1.heap.size:=hb.size;have HB:=zaa hb;obtain⟨d0,d1,d2,d3,d4,d5,d6,d7,d8,d9,d10⟩:=Ino.all (CA.o w1 hb);clear hb p0 p1 p2 p3 p4 p5 p6 p7 p8 p9 p10;go_wp2_with fail;clear d0 d1 d2 d3 d4 d5 d6 d7 d8 d9 d10
  obtain⟨wb,hwb⟩:=zE (w1.alloc (.cells (preC x).toArray 268))
  have HC:Hid (zB w1 wb):=by rw[hwb];exact zR.alloc zL _
  have HZ:w1.heap.size<wb.heap.size:=by rw[hwb];simp
  have HG:Hid (∀ w',zB wb w'->w'.heap[w1.heap.size]?=some (.cells (preC x).toArray 268 (0,0))):=fun w' hb=>(hb.block _ HZ).trans (by rw[hwb];exact zaf rfl)
  have HS:Hid (∀ w',zB wb w'->∀ j v,(mapC x)[j]?=some v->w'.cell? ((⟨w.heap.size,3,none⟩:Addr).add j)=some v):=fun w' hb j v hv=>by rw[Addr.add_lit];exact(CA.o w' (zab (zab HB.o HC.o hz1) hb (by omega)) (3+j)).trans (yaxy x j v hv)
  have HD:Hid (∀ w',zB wb w'->zB w1 w'):=fun w' hb=>zab HC.o hb (by omega)
  unfold preC at hwb;rw[<- hwb];clear hwb;have s1:=yait w1.heap.size;have s2:=yayf w.heap.size;have s3:=yapo w1.heap.size
  go_region_held3 (fun _=>True) (trivial)
   (first
    | (refine step_copy_splice rfl (.tmp 27) (.tmp 29) 23 23 rfl 3 Tryz.underlying23 sz3 _ _ _ _ _ _ rfl rfl w1.heap.size 3 (preC x) 268 (HG.o _ (by repeat (first | exact zR | refine Below.drew ?_))) (mapC x) rfl (fun _=>⟨rfl,_,rfl,HS.o _ (by repeat (first | exact zR | refine Below.drew ?_))⟩) (Nat.le_refl 11) (yarm x) w1.heap.size w1 (HD.o _ (by repeat (first | exact zR | refine Below.drew ?_))) zL ?_;intro w4 hg4 hb4))
  all_goals
   rw[yajj]at hg4;have R4:=zaa (ybdp hg4.o);have B4:=zaa (zab B1.o hb4 (by omega));have hz4:w1.heap.size<=w4.heap.size:=hb4.size;clear hg4 hb4 HG HS HD HC s1 s2;go_wp2_with fail;refine(zjc _ _ x.ns _ R4.o (show(11:Nat)<=64 by omega) RA.o).mono ?_;rw[UF.o];rintro e w5 ⟨v5,rfl,hr5,hb5⟩;obtain⟨-,aL,cL,hvL,-⟩:=hr5.rd;subst hvL;have R5:=zaa (hr5.wide (by omega:w.heap.size<=w4.heap.size) zL);have B5:=zaa (zab B4.o hb5 (by omega));clear hr5 hb5;go_wp2;go_ret2;exact⟨_,rfl,R5.o,B5.o⟩
def FD(w:World):Prop:=∃ t fr,w.heap[0]?=some (.cells #[.I 0,.string ⟨#[]⟩,.I (-1)] t fr)
theorem FD.lt{w:World}(h:FD w):0<w.heap.size:=by
 obtain⟨t,fr,h⟩:=h;exact(Array.getElem?_eq_some_iff.1 h).1
theorem FD.below{w w':World}(h:FD w)(hb:zB w w'):FD w':=by
 have hl:=h.lt;obtain⟨t,fr,h⟩:=h;exact⟨t,fr,(hb.block _ hl).trans h⟩
theorem FD.cells{w:World}(h:FD w):w.cell? ⟨0,0,none⟩=some (.I 0)/\w.cell? ⟨0,1,none⟩=some (.string ⟨#[]⟩)/\w.cell? ⟨0,2,none⟩=some (.I (-1)):=by
 obtain⟨t,fr,h⟩:=h;simp[World.cell?,h]
def zix(a:Int)(s:ByteArray)(c a':Int)(s':ByteArray)(c':Int):Bool:=(a == a')&&((s.toList == s'.toList)&&(c == c'))
@[go_sem ↓] theorem ybep(a:Int)(s:ByteArray)(c a':Int)(s':ByteArray)(c':Int)(w:World):(Op.equalIn 10000 90 (.agg #[.I a,.string s,.I c]) (.agg #[.I a',.string s',.I c'])).run Tryz.prog w=.ok (zix a s c a' s' c') w:=by
 unfold zix
 cases g0:(a == a')
 ·go_simp
 cases g1:(s.toList == s'.toList)
 ·go_simp
 cases g2:(c == c')
 ·go_simp
 ·go_simp
theorem yaei:(⟨#[]⟩:ByteArray).toList=[]:=(zqa _).2 rfl
theorem zmd(x:Den):zix x.dir x.name x.child 0 ⟨#[]⟩ (-1)=x.freeB:=by
 unfold zix Den.freeB
 congr 2
 rw[yaei,Bool.eq_iff_iff,beq_iff_eq,beq_iff_eq];exact zqa x.name
theorem Den.okB_free{x:Den}(h:x.freeB=true):x.okB=true:=by unfold Den.okB;rw[h];rfl
theorem Den.okB_not{x:Den}(h:x.freeB=false):x.okB=(decide (1<=x.child/\x.child<=15)&&(decide (0<=x.dir/\x.dir<=15)&&nmB x.name)):=by unfold Den.okB;rw[h,Bool.false_or]
theorem yain(s:ByteArray):(zte s == 0)=nmB s:=by
 unfold zte
 cases h:nmB s with
 | true =>
  have:=(of_decide_eq_true h:1<=s.size/\s.size<=6/\_)
  rw[if_neg (by omega),if_pos rfl];rfl
 | false =>
  split
  ·rfl
  ·rw[if_neg (by decide)];rfl
theorem zjq(s:ByteArray)(w:World)(hs:s.size<=maxLen):zC 169 #[.string s] w fun e w'=>e=.returned (.bool (nmB s))/\zB w w':=by
 have P:=zaa (yain s);have LP:=zaa (fun w1=>zis s w1 hs);generalize zlo s=pv at *;generalize zte s=pc at *;clear hs;go_enter Tryz.func169,Tryz.ntmps169;go_wp2_with fail;refine(LP.o _).mono ?_;rintro e w1 ⟨rfl,hb1⟩;go_wp2;go_ret;exact⟨zai P.o,hb1⟩
theorem zod(x:Den)(w:World)(hF:FD w)(hs:x.name.size<=maxLen):zC 115 #[x.v] w fun e w'=>e=.returned (.bool x.okB)/\zB w w':=by
 have LN:=zaa (fun w1=>zjq x.name w1 hs);have DF:=zmd x;have OF:=@Den.okB_free x;have ON:=@Den.okB_not x;obtain⟨d,s,c⟩:=x;simp only at LN DF ON hs;unfold Den.v;simp only;have BW:=zaa ((Below.refl w.heap.size w).alloc zL (.cells #[.I d,.string s,.I c] 90))
 have CB:Hid (∀ w',Below (w.alloc (.cells #[.I d,.string s,.I c] 90)).heap.size (w.alloc (.cells #[.I d,.string s,.I c] 90)) w'->w'.cell? ⟨w.heap.size,0,none⟩=some (.I d)/\w'.cell? ⟨w.heap.size,1,none⟩=some (.string s)/\w'.cell? ⟨w.heap.size,2,none⟩=some (.I c)):=fun w' hb=>zax ((hb.block _ (by simp)).trans (zaf rfl))
 obtain⟨x0,x1,x2⟩:=CB.o _ zR;obtain⟨f0,f1,f2⟩:=FD.cells (hF.below BW.o);clear hF hs
 cases h0:(Den.mk d s c).freeB with
 | true =>
  rw[h0]at DF;have E:=zaa (OF h0);clear OF ON LN CB h0;go_enter Tryz.func115,Tryz.ntmps115;go_wp2;go_ret;exact⟨zai E.o.symm,BW.o⟩
 | false =>
  rw[h0]at DF;have E:=zaa (ON h0);clear OF ON h0
  cases h1:nmB s with
  | false =>
   rw[h1]at E;have N1:=zaa h1;clear h1 CB;go_enter Tryz.func115,Tryz.ntmps115;go_wp2_with fail;refine(LN.o _).mono ?_;rw[N1.o];rintro e w1 ⟨rfl,hb1⟩;have B1:=zaa (zab BW.o hb1 BW.o.size);clear hb1 x0 x1 x2 f0 f1 f2;go_wp2;go_ret;exact⟨zai (by rw[E.o,Bool.and_false,Bool.and_false]),B1.o⟩
  | true =>
   rw[h1]at E;have N1:=zaa h1;clear h1
   by_cases h2:0<=d/\d<16
   case neg =>
    have E2:=zaa (show(Den.mk d s c).okB=false by rw[E.o,decide_eq_false (show ¬ (0<=d/\d<=15) by omega),Bool.false_and,Bool.and_false]);have H2:=zaa h2;clear h2 E;go_enter Tryz.func115,Tryz.ntmps115;go_wp2_with fail;refine(LN.o _).mono ?_;rw[N1.o];rintro e w1 ⟨rfl,hb1⟩;have B1:=zaa (zab BW.o hb1 BW.o.size);clear x0 x1 x2 f0 f1 f2;obtain⟨x0,x1,x2⟩:=CB.o _ hb1;clear hb1 CB;go_wp2_with fail;refine(zbv _ _ _ H2.o).mono ?_;rintro e w' ⟨rfl,hw'⟩;subst w';go_wp2;go_ret;exact⟨zai E2.o.symm,B1.o⟩
   by_cases h3:0<=c/\c<16
   case neg =>
    have E2:=zaa (show(Den.mk d s c).okB=false by rw[E.o,decide_eq_false (show ¬ (1<=c/\c<=15) by omega),Bool.false_and]);have H2:=zaa h2;have H3:=zaa h3;clear h2 h3 E;go_enter Tryz.func115,Tryz.ntmps115;go_wp2_with fail;refine(LN.o _).mono ?_;rw[N1.o];rintro e w1 ⟨rfl,hb1⟩;have B1:=zaa (zab BW.o hb1 BW.o.size);clear x0 x1 x2 f0 f1 f2;obtain⟨x0,x1,x2⟩:=CB.o _ hb1;clear hb1 CB;go_wp2_with fail;refine(zav _ _ _ H2.o).mono ?_;rintro e w' ⟨rfl,hw'⟩;subst w';go_wp2_with fail;refine(zbv _ _ _ H3.o).mono ?_;rintro e w' ⟨rfl,hw'⟩;subst w';go_wp2;go_ret;exact⟨zai E2.o.symm,B1.o⟩
   have E2:=zaa (show(Den.mk d s c).okB=(c != 0) by
    rw[E.o,decide_eq_true (show 0<=d/\d<=15 by omega)]
    by_cases h:c=0
    ·rw[h];rfl
    ·rw[decide_eq_true (show 1<=c/\c<=15 by omega),eq_comm];simpa using h)
   have H2:=zaa h2;have H3:=zaa h3;clear h2 h3 E;go_enter Tryz.func115,Tryz.ntmps115;go_wp2_with fail;refine(LN.o _).mono ?_;rw[N1.o];rintro e w1 ⟨rfl,hb1⟩;have B1:=zaa (zab BW.o hb1 BW.o.size);clear x0 x1 x2 f0 f1 f2;obtain⟨x0,x1,x2⟩:=CB.o _ hb1;clear hb1 CB;go_wp2_with fail;refine(zav _ _ _ H2.o).mono ?_;rintro e w' ⟨rfl,hw'⟩;subst w';go_wp2_with fail;refine(zav _ _ _ H3.o).mono ?_;rintro e w' ⟨rfl,hw'⟩;subst w';go_wp2;go_ret;exact⟨zai E2.o.symm,B1.o⟩
theorem yaro(b:Nat)(w:World):(Instr.sliceAt 235 (.pointer (some ⟨b,0,none⟩)) none none none).run Tryz.prog w=.ok (.slice (some ⟨b,0,none⟩) 3 3) w:=by
 have al:Tryz.prog.arrayLen 235=3:=by kernel_rfl
 rw[run_sliceAt_array_all w 235 ⟨b,0,none⟩ (by kernel_rfl),al]
 have sz:(sizeOf (Tryz.prog.elem 235)).run Tryz.prog w=.ok 1 w:=by kernel_rfl
 rw[sz];simp[Result.andThen,slicedAt,Addr.add]
theorem yaux{w:World}{b:Nat}{t:TypeId}{x y z:Int}(h:w.heap[b]?=some (.cells #[.I x,.I y,.I z] t (0,0))):RdI w (.slice (some ⟨b,0,none⟩) 3 3) [x,y,z]:=by
 refine⟨by rw[zii,Nat.mul_one],some ⟨b,0,none⟩,3,rfl,⟨Nat.le_refl _,fun e=>by cases e⟩,fun _=>⟨b,0,rfl,(Array.getElem?_eq_some_iff.1 h).1,fun j hj=>?_⟩⟩;rw[Nat.zero_add];exact(zag (xs:=[.I x,.I y,.I z]) h j).1
theorem yamo{s:ByteArray}(h:s.size=0):pk s s.size=0:=by
 rw[h];rfl
theorem yavy{x:Den}(h:x.okB=true):zlo x.name=((pk x.name x.name.size:Nat):Int):=by
 cases hn:nmB x.name with
 | true=>exact(zvn hn).1
 | false =>
  have hf:x.freeB=true:=by
   unfold Den.okB at h;rw[hn,Bool.and_false,Bool.and_false,Bool.or_false]at h;exact h
  unfold Den.freeB at hf;simp only[Bool.and_eq_true,beq_iff_eq]at hf;rw[yamo hf.2.1];unfold zlo;rw[hn];rfl
theorem yauf{x:Den}(h:x.okB=true):-1<=x.child/\x.child<=15:=by
 unfold Den.okB Den.freeB at h;simp only[Bool.or_eq_true,Bool.and_eq_true,beq_iff_eq,decide_eq_true_eq]at h;omega
theorem ybeg(k:Int)(x:Den):ufL (240+3*k) [x.dir,((pk x.name x.name.size:Nat):Int),x.child+1] 3=enL k x:=by
 simp[ufL,enL,List.range_succ]
theorem zcr(k:Int)(x:Den)(w:World)(hF:FD w)(hs:x.name.size<=maxLen) :
  zC 186 #[.I k,x.v] w fun e w'=>∃ v',e=.returned (.tuple #[v',.I (duC k x)])/\Row w' 104 2 w.heap.size w'.heap.size v' (duL k x).length (ses (duL k x))/\zB w w':=by
 have LF:=zaa (fun w1 (h:FD w1)=>zod x w1 h hs);have LP:=zaa (fun w1=>zis x.name w1 hs);have PV:=@yavy x;have KC:=@yauf x;have UE:=zaa (ybeg k x);have DC:=yaup k x;have BW:=zaa ((Below.refl w.heap.size w).alloc zL (.cells #[.I x.dir,.string x.name,.I x.child] 90))
 have CB:Hid (∀ w',Below (w.alloc (.cells #[.I x.dir,.string x.name,.I x.child] 90)).heap.size (w.alloc (.cells #[.I x.dir,.string x.name,.I x.child] 90)) w'->w'.cell? ⟨w.heap.size,0,none⟩=some (.I x.dir)/\w'.cell? ⟨w.heap.size,1,none⟩=some (.string x.name)/\w'.cell? ⟨w.heap.size,2,none⟩=some (.I x.child)):=fun w' hb=>zax ((hb.block _ (by simp)).trans (zaf rfl))
 have F:Hid (FD (w.alloc (.cells #[.I x.dir,.string x.name,.I x.child] 90))):=hF.below BW.o
 have hz:w.heap.size<(w.alloc (.cells #[.I x.dir,.string x.name,.I x.child] 90)).heap.size:=by simp
 obtain⟨W,hW⟩:=zE (w.alloc (.cells #[.I x.dir,.string x.name,.I x.child] 90))
 rw[<- hW]at BW CB F hz;rw[show x.v=.agg #[.I x.dir,.string x.name,.I x.child]from rfl];clear hF hs
 rcases DC with ⟨c1,e1,e2⟩ | ⟨c1,c2,e1,e2⟩ | ⟨c1,c2,e1,e2⟩
 ·rw[e1,e2];obtain⟨k1,k2⟩:=yael (i:=k) (f:=0) (by omega);have K1:=zaa k1;have K2:=zaa k2;clear e1 e2 c1 k1 k2 PV KC;go_enter Tryz.func186,Tryz.ntmps186;go_wp2_with fail;rw[<- hW];clear hW;refine(zha _ _ _).mono ?_;rw[K2.o];rintro e w' ⟨rfl,hw'⟩;subst w';go_wp2;go_ret2;exact⟨_,rfl,Row.nil _ _ _ _ _,BW.o⟩
 ·rw[e1,e2];obtain⟨k1,k2⟩:=yapk (i:=k) (f:=0) (by omega) (by omega);have K1:=zaa k1;have K2:=zaa k2;have C2:=zaa c2;clear e1 e2 c1 c2 k1 k2 PV KC;go_enter Tryz.func186,Tryz.ntmps186;go_wp2_with fail;rw[<- hW];clear hW;refine(zha _ _ _).mono ?_;rw[K1.o,K2.o];rintro e w' ⟨rfl,hw'⟩;subst w';obtain⟨p0,p1,p2⟩:=CB.o W zR;go_wp2_with fail;refine(LF.o _ F.o).mono ?_;rw[C2.o];rintro e w1 ⟨rfl,hb⟩;have B1:=zaa (zab BW.o hb (by omega));clear hb p0 p1 p2;go_wp2;go_ret2;exact⟨_,rfl,Row.nil _ _ _ _ _,B1.o⟩
 ·rw[e1,e2];obtain⟨k1,k2⟩:=yapk (i:=k) (f:=0) (by omega) (by omega);have K1:=zaa k1;have K2:=zaa k2;have C2:=zaa c2;have P2:=zaa (PV c2);obtain⟨b0,b1⟩:=KC c2;have RA:=zaa (show 0<=240+3*k/\240+3*k<=1000 by omega);clear e1 e2 c1 c2 k1 k2 PV KC;go_enter Tryz.func186,Tryz.ntmps186;go_wp2_with fail;rw[<- hW];clear hW;refine(zha _ _ _).mono ?_;rw[K1.o,K2.o];rintro e w' ⟨rfl,hw'⟩;subst w';obtain⟨p0,p1,p2⟩:=CB.o W zR;go_wp2_with fail;refine(LF.o _ F.o).mono ?_;rw[C2.o];rintro e w1 ⟨rfl,hb⟩;have B1:=zaa (zab BW.o hb (by omega));have H1:=zaa hb;have hz1:W.heap.size<=w1.heap.size:=hb.size;clear p0 p1 p2;obtain⟨p0,p1,p2⟩:=CB.o w1 hb;clear hb;go_wp2_with fail;refine(LP.o _).mono ?_;rw[P2.o];rintro e w2 ⟨rfl,hb⟩;have B2:=zaa (zab B1.o hb (by omega));have H2:=zaa (zab H1.o hb (by omega));have hz2:w1.heap.size<=w2.heap.size:=hb.size;clear p0 p1 p2;obtain⟨p0,p1,p2⟩:=CB.o w2 H2.o;generalize ((pk x.name x.name.size:Nat):Int)=pv at *;clear hb H1 H2 B1;have B3:=zaa (B2.o.alloc (by omega) (.cells #[.I x.dir,.I pv,.I (x.child+1)] 235));have R3:=zaa (yaux (w:=w2.alloc (.cells #[.I x.dir,.I pv,.I (x.child+1)] 235)) (zaf rfl));have s3:=yaro w2.heap.size;go_wp2_with fail;refine(zjc _ _ [x.dir,pv,x.child+1] _ R3.o (show(3:Nat)<=64 by omega) RA.o).mono ?_;rw[show[x.dir,pv,x.child+1].length=3 from rfl,UE.o];rintro e w5 ⟨v5,rfl,hr5,hb5⟩;obtain⟨-,aL,cL,hvL,-⟩:=hr5.rd;subst hvL;have R5:=zaa (hr5.wide (B3.o.size) zL);have B5:=zaa (zab B3.o hb5 B3.o.size);clear hr5 hb5;go_wp2;go_ret2;exact⟨_,rfl,R5.o,B5.o⟩
structure InI(W w:World)(vL:Value)(zs:List Int):Prop where
 l:w.ownsRow W.heap.size 3 1 vL zs.length (zeg zs)
 b:zB W w
theorem InI.z{W w:World}{vL:Value}{zs:List Int}(h:InI W w vL zs):W.heap.size<=w.heap.size:=h.b.size
theorem InI.below{W w w':World}{vL:Value}{zs:List Int}(h:InI W w vL zs)(hb:zB w w'):InI W w' vL zs :=
 ⟨((zad h.l).below hb zL).1,zab h.b hb h.z⟩
theorem InI.grow{W w w':World}{vL v':Value}{zs:List Int}(h:InI W w vL zs)(x:Int)(ho:w'.ownsRow W.heap.size 3 1 v' (zs.length+1) (zeg zs++[.I x]))(hg:w.grownBy w' vL.ownBlock):InI W w' v' (zs++[x]) :=
 ⟨by rw[yalm,List.length_append];exact ho,h.b.grown hg h.z (fun q hq=>(h.l.lt q hq).1)⟩
theorem zvw(x:Int):∀ u∈[Value.I x],u.oneCell'=true:=by
 intro u hu;rw[List.mem_singleton.1 hu];rfl
def zdw(zs:List Int):List Int:=zs.filter fun z=>z != 0
def zam(ws:List Ino):List Int:=ws.flatMap fun x=>zdw x.map
def zxl(ws:List Ino)(k:Nat)(j:Nat):List Int:=zam (ws.take k)++zdw (((ws[k]?).map Ino.map).getD [] |>.take j)
theorem zzt(ws:List Ino)(k:Nat):zxl ws k 0=zam (ws.take k):=by simp[zxl,zdw]
theorem zyw{ws:List Ino}{k:Nat}(hk:k<ws.length){j:Nat}(hj:j<8):zxl ws k (j+1)=if ws[k].map.getD j 0=0 then zxl ws k j else zxl ws k j++[ws[k].map.getD j 0]:=by
 have hl:j<ws[k].map.length:=hj
 have e:ws[k].map.getD j 0=ws[k].map[j]:=by rw[List.getD_eq_getElem?_getD,List.getElem?_eq_getElem hl];rfl
 unfold zxl zdw;rw[List.getElem?_eq_getElem hk];simp only[Option.map_some,Option.getD_some];rw[List.take_succ_eq_append_getElem hl,List.filter_append,e]
 by_cases h:ws[k].map[j]=0
 ·rw[if_pos h,h];simp
 ·rw[if_neg h];simp[h]
theorem zzz{ws:List Ino}{k:Nat}(hk:k<ws.length):zxl ws k 8=zam (ws.take (k+1)):=by
 unfold zxl zam;rw[List.getElem?_eq_getElem hk,List.take_succ_eq_append_getElem hk,List.flatMap_append];simp[Ino.map]
theorem zzv(zs:List Int):(zdw zs).length<=zs.length:=List.length_filter_le _ _
theorem zfz(ws:List Ino):(zam ws).length<=8*ws.length:=by
 induction ws with
 | nil=>simp[zam]
 | cons x ws ih =>
  have h1:=zzv x.map;have h2:x.map.length=8:=rfl;unfold zam at *;rw[List.flatMap_cons,List.length_append,List.length_cons];omega
theorem yagx(ws:List Ino)(k j:Nat)(hk:k<ws.length)(hj:j<=8):(zxl ws k j).length<=8*ws.length:=by
 have h1:=zfz (ws.take k);have h2:=zzv (((ws[k]?).map Ino.map).getD [] |>.take j)
 have h3:(((ws[k]?).map Ino.map).getD [] |>.take j).length<=j:=by rw[List.length_take];omega
 unfold zxl;rw[List.length_append];rw[List.length_take]at h1;omega
theorem idx8(x:Ino)(j:Nat)(hj:j<8)(w:World):(Instr.index 85 (.agg #[.I x.m0,.I x.m1,.I x.m2,.I x.m3,.I x.m4,.I x.m5,.I x.m6,.I x.m7]) (.I (j:Int))).run Tryz.prog w=.ok (.I (x.map.getD j 0)) w:=by
 rcases(show j=0\/j=1\/j=2\/j=3\/j=4\/j=5\/j=6\/j=7 by omega)with rfl|rfl|rfl|rfl|rfl|rfl|rfl|rfl<;>simp[Instr.index,run_underlying Tryz.underlying85,asIntOf,Ino.map,go_sem]
theorem zhm(v:Value)(ws:List Ino)(w:World)(h:RdN w v ws)(hn:ws.length<=4096) :
  zC 65 #[v] w fun e w'=>∃ v',e=.returned v'/\Row w' 3 1 w.heap.size w'.heap.size v' (zam ws).length (zeg (zam ws))/\zB w w':=by
 obtain⟨aW,cW,rfl,_,hcW⟩:=h.shape;have HW:=zaa hcW;clear h hcW;go_enter Tryz.func65,Tryz.ntmps65;go_wp2
 go_loopw [3,5,7,10] (fun vL _ _ i wr=>∃ k:Nat,k<=ws.length/\i=.I k/\Hid (InI w wr vL (zam (ws.take k)))/\w.heap.size<=wr.heap.size) (fun _ _ _ i _=>ws.length-(intOf i).toNat)
 case atStart=>exact⟨0,by omega,rfl,⟨World.ownsRow_nil _ _ _ _,zR⟩,Nat.le_refl _⟩
 case round =>
  obtain⟨k,hk,rfl,I,hz⟩:=hrel
  by_cases hlt:k<ws.length
  ·obtain⟨b,o,rfl,hbl,hcell⟩:=HW.o (by omega);obtain⟨a0,a1,a2,a3,a4,a5,a6,a7,a8,a9,a10⟩:=hcell k hlt;have d0:=(I.o.b.cell (p:=⟨b,o+k*11,none⟩) hbl).trans a0;have d1:=(I.o.b.cell (p:=⟨b,o+k*11+1,none⟩) hbl).trans a1;have d2:=(I.o.b.cell (p:=⟨b,o+k*11+2,none⟩) hbl).trans a2;have d3:=(I.o.b.cell (p:=⟨b,o+k*11+3,none⟩) hbl).trans a3;have d4:=(I.o.b.cell (p:=⟨b,o+k*11+4,none⟩) hbl).trans a4;have d5:=(I.o.b.cell (p:=⟨b,o+k*11+5,none⟩) hbl).trans a5;have d6:=(I.o.b.cell (p:=⟨b,o+k*11+6,none⟩) hbl).trans a6;have d7:=(I.o.b.cell (p:=⟨b,o+k*11+7,none⟩) hbl).trans a7;have d8:=(I.o.b.cell (p:=⟨b,o+k*11+8,none⟩) hbl).trans a8;have d9:=(I.o.b.cell (p:=⟨b,o+k*11+9,none⟩) hbl).trans a9;have d10:=(I.o.b.cell (p:=⟨b,o+k*11+10,none⟩) hbl).trans a10
   have k0:(0:Int)<=(k:Int):=by omega
   have k1:(k:Int)<(ws.length:Int):=by omega
   have MZ:=zaa (zzt ws k);have MF:=zaa (zzz hlt);have MS:=zaa (fun j (hj:j<8)=>zyw hlt hj);have ML:=zaa (fun j (hj:j<=8)=>yagx ws k j hlt hj);have HM:=zaa (fun j (hj:j<8)=>ws[k].at j hj);clear a0 a1 a2 a3 a4 a5 a6 a7 a8 a9 a10 hcell;generalize ws[k]=x at *
   have START:Hid (InI w (wr.alloc (.cells x.cs.toArray 87)) u3 (zxl ws k 0)):=by
    have:=I.o.below ((Below.refl wr.heap.size wr).alloc zL (.cells x.cs.toArray 87));unfold Hid;rw[MZ.o];exact this
   unfold Ino.cs at START;have hz0:=START.o.z;clear I;go_wp2
   go_loopw [3,7,16] (fun vL _ i wq=>∃ j:Nat,j<=8/\i=.I j/\Hid (InI w wq vL (zxl ws k j))/\w.heap.size<=wq.heap.size) (fun _ _ i _=>8-(intOf i).toNat)
   case atStart=>exact⟨0,by omega,rfl,START,hz0⟩
   case round =>
    obtain⟨j,hj,rfl,J,hzj⟩:=hrel;clear START hz0 d0 d1 d2 d3 d4 d5 d6 d7 d8 d9 d10
    have j0:(0:Int)<=(j:Int):=by omega
    by_cases hlj:j<8
    ·have j1:(j:Int)<8:=by omega
     have ix:=idx8 x j hlj;have MJ:=zaa (MS.o j hlj);have hlen:=ML.o j (by omega);generalize x.map.getD j 0=z at ix MJ
     by_cases q:z=0
     ·have q':(z != 0)=false:=by rw[q];rfl
      have G:Hid (InI w wr u3 (zxl ws k (j+1))):=by unfold Hid;rw[MJ.o,if_pos q];exact J.o
      clear q J MJ;go_wp2
      go_roundw
      case rel=>exact⟨j+1,by omega,by go_num,G,hzj⟩
      case measure=>simp[intOf];omega
     ·have q':(z != 0)=true:=by rw[bne_iff_ne];exact q
      have JB:Hid (InI w (wr.alloc (.cells #[.I z] 3)) u3 (zxl ws k j)):=J.o.below (zR.alloc zL _);have RB:=zaa (yafv wr z);have hzb:=JB.o.z
      have MN:Hid (zxl ws k (j+1)=zxl ws k j++[z]):=by unfold Hid;rw[MJ.o,if_neg q]
      clear q J MJ;go_wp2_with (at_builtin;refine zae _ rfl (.tmp 21) (.tmp 23) 23 rfl w.heap.size 3 (.I 0) 1 8 Tryz.underlying23 zmo rfl (by decide) _ _ _ rfl JB.o.l _ 1 _ rfl RB.o (zvw _) (by simp[maxLen];omega) (by omega) (by omega) ?_);intro vN wN hownN hgrN;have G:=zaa (JB.o.grow z hownN hgrN);rw[<- MN.o]at G;have hzN:=G.o.z;clear hownN hgrN JB RB;go_wp2
      go_roundw
      case rel=>exact⟨j+1,by omega,by go_num,G,hzN⟩
      case measure=>simp[intOf];omega
    ·obtain rfl:j=8:=by omega
     have G:Hid (InI w wr u3 (zam (ws.take (k+1)))):=by unfold Hid;rw[<- MF.o];exact J.o
     clear J;go_wp2
     go_roundw
     case rel=>exact⟨k+1,by omega,by go_num,G,hzj⟩
     case measure=>simp[intOf];omega
  ·obtain rfl:k=ws.length:=by omega
   have E:=zaa (show zam (ws.take ws.length)=zam ws by rw[List.take_length]);rw[E.o]at I;obtain⟨-,aL,cL,hvL,-⟩:=(zad I.o.l).rd;subst hvL;go_wp2;go_ret;exact⟨_,rfl,zad I.o.l,I.o.b⟩
end Go.Proofs.YtogcbbkhnpmgeaaGreatDoor
