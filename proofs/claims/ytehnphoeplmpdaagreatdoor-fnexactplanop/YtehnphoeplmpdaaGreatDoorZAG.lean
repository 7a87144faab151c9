/- Several texts laid together: PiD, PiE, PiF. -/
import Derived.Test.YtehnphoeplmpdaaGreatDoorZAF
import Derived.Test.YtehnphoeplmpdaaGreatDoorZAD
import Derived.Deep.RegionLaw
set_option maxRecDepth 100000
set_option maxHeartbeats 4000000
namespace Go.Proofs.YtehnphoeplmpdaaGreatDoor
open Go.RowKit
theorem eq8 (a0 a1 a2 a3 a4 a5 a6 a7 b0 b1 b2 b3 b4 b5 b6 b7:Int) (w:World):(Op.equalIn 9999 131 (.agg #[.int .i64 a0,.int .i64 a1,.int .i64 a2,.int .i64 a3,.int .i64 a4,.int .i64 a5,.int .i64 a6,.int .i64 a7]) (.agg #[.int .i64 b0,.int .i64 b1,.int .i64 b2,.int .i64 b3,.int .i64 b4,.int .i64 b5,.int .i64 b6,.int .i64 b7])).run Tryz.prog w=.ok (decide ([a0,a1,a2,a3,a4,a5,a6,a7]=[b0,b1,b2,b3,b4,b5,b6,b7])) w:=by
 have U3:=Tryz.underlying3;have A3:=Tryz.isAgg3;have Z3:=Tryz.sizeOf3;rw[show (9999:Nat)=9998+1 from rfl,Op.equalIn];simp only[Sem.run_bind,run_underlying Tryz.underlying131,Result.andThen_ok];simp only[Std.Legacy.Range.forIn_eq_forIn_range',Std.Legacy.Range.size,Nat.sub_zero,Nat.add_sub_cancel,Nat.div_one,List.range'_succ,List.range'_zero,List.forIn_cons,List.forIn_nil];go_simp
 by_cases h0:a0=b0
 case neg=>simp[h0]
 by_cases h1:a1=b1
 case neg=>simp[h0,h1]
 by_cases h2:a2=b2
 case neg=>simp[h0,h1,h2]
 by_cases h3:a3=b3
 case neg=>simp[h0,h1,h2,h3]
 by_cases h4:a4=b4
 case neg=>simp[h0,h1,h2,h3,h4]
 by_cases h5:a5=b5
 case neg=>simp[h0,h1,h2,h3,h4,h5]
 by_cases h6:a6=b6
 case neg=>simp[h0,h1,h2,h3,h4,h5,h6]
 by_cases h7:a7=b7
 case neg=>simp[h0,h1,h2,h3,h4,h5,h6,h7]
 simp[h0,h1,h2,h3,h4,h5,h6,h7]
def zfr (xs ys:List Int):Bool:=decide (xs=ys)
theorem zzr {xs ys:List Int} (h:xs=ys):zfr xs ys=true:=decide_eq_true h
theorem zzu {xs ys:List Int} (h:¬ xs=ys):zfr xs ys=false:=decide_eq_false h
@[go_sem ↓] theorem yaty (k s l a0 a1 a2 a3 a4 a5 a6 a7 k' s' l' b0 b1 b2 b3 b4 b5 b6 b7:Int) (w:World):(Op.equalIn 10000 133 (.agg #[.int .i64 k,.int .i64 s,.int .i64 l,.int .i64 a0,.int .i64 a1,.int .i64 a2,.int .i64 a3,.int .i64 a4,.int .i64 a5,.int .i64 a6,.int .i64 a7]) (.agg #[.int .i64 k',.int .i64 s',.int .i64 l',.int .i64 b0,.int .i64 b1,.int .i64 b2,.int .i64 b3,.int .i64 b4,.int .i64 b5,.int .i64 b6,.int .i64 b7])).run Tryz.prog w=.ok (zfr [k,s,l,a0,a1,a2,a3,a4,a5,a6,a7] [k',s',l',b0,b1,b2,b3,b4,b5,b6,b7]) w:=by
 have e8:=eq8 a0 a1 a2 a3 a4 a5 a6 a7 b0 b1 b2 b3 b4 b5 b6 b7 w;unfold zfr
 by_cases g0:k=k'
 case neg=>go_simp
 by_cases g1:s=s'
 case neg=>go_simp
 by_cases g2:l=l'
 case neg=>go_simp
 subst g0 g1 g2;go_simp
 split
 ·rename_i h;rw[h]
 ·rename_i h;rw[Bool.not_eq_false] at h;rw[h]
theorem zpj (x:Ino) (w:World) (hT:TS w) (hE:ED w) (hr:x.R):Calls Tryz.prog 163 #[x.v] w fun e w'=>e=.returned (.bool (zes x))∧Below w.heap.size w w':=by
 have hv:x.v=.agg x.cs.toArray:=rfl;have BW:Hid (Below w.heap.size w (w.alloc (.cells x.cs.toArray 133))):=(Below.refl _ _).alloc (Nat.le_refl _) _
 have CA:Hid (∀ j,(w.alloc (.cells x.cs.toArray 133)).cell? ⟨w.heap.size,j,none⟩=x.cs[j]?):=fun j=>(zae (xs:=x.cs) (zah rfl) j).1
 have T:Hid (TS (w.alloc (.cells x.cs.toArray 133))):=hT.below BW.o;obtain ⟨d0,d1,d2,d3,d4,d5,d6,d7,d8,d9,d10⟩:=ED.cells (hE.below BW.o);obtain ⟨p0,p1,p2,p3,p4,p5,p6,p7,p8,p9,p10⟩:=Ino.all CA.o;have LF:=zaa (fun w1 (h:TS w1)=>yach x w1 h hr);rw[hv];clear hT hE hr CA
 by_cases h0:x.ns=[0,0,0,0,0,0,0,0,0,0,0]
 ·have E:=zaa (yafy h0);have q1:zfr [x.kind,x.size,x.links,x.m0,x.m1,x.m2,x.m3,x.m4,x.m5,x.m6,x.m7] [0,0,0,0,0,0,0,0,0,0,0]=true:=zzr h0;clear h0;go_enter Tryz.func163,Tryz.ntmps163;go_wp2;go_ret;exact ⟨zaf E.o.symm,BW.o⟩
 have q1:zfr [x.kind,x.size,x.links,x.m0,x.m1,x.m2,x.m3,x.m4,x.m5,x.m6,x.m7] [0,0,0,0,0,0,0,0,0,0,0]=false:=zzu h0
 by_cases h1:x.ns=[2,0,1,0,0,0,0,0,0,0,0]
 ·have E:=zaa (yapk h1);have q2:zfr [x.kind,x.size,x.links,x.m0,x.m1,x.m2,x.m3,x.m4,x.m5,x.m6,x.m7] [2,0,1,0,0,0,0,0,0,0,0]=true:=zzr h1;clear h0 h1;go_enter Tryz.func163,Tryz.ntmps163;go_wp2;go_ret;exact ⟨zaf E.o.symm,BW.o⟩
 have q2:zfr [x.kind,x.size,x.links,x.m0,x.m1,x.m2,x.m3,x.m4,x.m5,x.m6,x.m7] [2,0,1,0,0,0,0,0,0,0,0]=false:=zzu h1;have E:=zaa (yals h0 h1);clear h0 h1;go_enter Tryz.func163,Tryz.ntmps163;go_wp2_with fail;refine (LF.o _ T.o).mono ?_;rw[E.o];rintro e w1 ⟨rfl,hb1⟩;have B1:=zaa (zab BW.o hb1 BW.o.size);clear hb1;go_wp2;go_ret;exact ⟨rfl,B1.o⟩
theorem yacs (b:Nat) (w:World):(Instr.sliceAt 333 (.pointer (some ⟨b,0,none⟩)) (some (.int .i64 3)) none none).run Tryz.prog w=.ok (.slice (some ⟨b,3,none⟩) 8 8) w:=by
 have al:Tryz.prog.arrayLen 333=11:=by kernel_rfl
 rw[run_sliceAt_array_l w 333 ⟨b,0,none⟩ (by kernel_rfl) .i64 3 (by omega) (by rw[al];omega),al]
 have sz:(sizeOf (Tryz.prog.elem 333)).run Tryz.prog w=.ok 1 w:=by kernel_rfl
 rw[sz];simp[Result.andThen,slicedAt,Addr.add]
theorem yafs (b:Nat) (w:World):(Instr.sliceAt 333 (.pointer (some ⟨b,0,none⟩)) none none none).run Tryz.prog w=.ok (.slice (some ⟨b,0,none⟩) 11 11) w:=by
 have al:Tryz.prog.arrayLen 333=11:=by kernel_rfl
 rw[run_sliceAt_array_all w 333 ⟨b,0,none⟩ (by kernel_rfl),al]
 have sz:(sizeOf (Tryz.prog.elem 333)).run Tryz.prog w=.ok 1 w:=by kernel_rfl
 rw[sz];simp[Result.andThen,slicedAt,Addr.add]
theorem yapm (b:Nat) (w:World):(Instr.sliceAt 131 (.pointer (some ⟨b,3,none⟩)) none none none).run Tryz.prog w=.ok (.slice (some ⟨b,3,none⟩) 8 8) w:=by
 have al:Tryz.prog.arrayLen 131=8:=by kernel_rfl
 rw[run_sliceAt_array_all w 131 ⟨b,3,none⟩ (by kernel_rfl),al]
 have sz:(sizeOf (Tryz.prog.elem 131)).run Tryz.prog w=.ok 1 w:=by kernel_rfl
 rw[sz];simp[Result.andThen,slicedAt,Addr.add]
def preC (x:Ino):List Value:=[.int .i64 x.kind,.int .i64 x.size,.int .i64 x.links,.int .i64 0,.int .i64 0,.int .i64 0,.int .i64 0,.int .i64 0,.int .i64 0,.int .i64 0,.int .i64 0]
def mapC (x:Ino):List Value:=[.int .i64 x.m0,.int .i64 x.m1,.int .i64 x.m2,.int .i64 x.m3,.int .i64 x.m4,.int .i64 x.m5,.int .i64 x.m6,.int .i64 x.m7]
theorem yadb (x:Ino):splice (preC x) 3 (mapC x)=x.cs:=rfl
theorem yamk (x:Ino):∀ v∈mapC x,v.oneCell'=true:=by
 intro v hv;simp[mapC] at hv
 rcases hv with rfl | rfl | rfl | rfl | rfl | rfl | rfl | rfl <;> rfl
theorem yanz (x:Ino) (j:Nat) (v:Value) (h:(mapC x)[j]?=some v):x.cs[3+j]?=some v:=by
 have hj:j < 8:=by
  have:=(List.getElem?_eq_some_iff.1 h).1;exact this
 rcases (show j=0∨j=1∨j=2∨j=3∨j=4∨j=5∨j=6∨j=7 by omega) with rfl | rfl | rfl | rfl | rfl | rfl | rfl | rfl <;> exact h
theorem yatc (x:Ino):zeg x.ns=x.cs:=rfl
theorem yatp {x:Ino} {w:World} {b:Nat} {t:TypeId} (h:w.heap[b]?=some (.cells x.cs.toArray t (0,0))):RdI w (.slice (some ⟨b,0,none⟩) 11 11) x.ns:=by
 refine ⟨by rw[zjz,Nat.mul_one],some ⟨b,0,none⟩,11,rfl,⟨Nat.le_refl _,fun e=>by cases e⟩,fun _=>⟨b,0,rfl,(Array.getElem?_eq_some_iff.1 h).1,fun j hj=>?_⟩⟩;rw[Nat.zero_add,yatc];exact (zae (xs:=x.cs) h j).1
theorem yatr (i:Int) (x:Ino):ufL (48+12*i) x.ns x.ns.length=wrL i x 8:=by
 have e1:x.ns.length=11:=rfl;rw[e1];simp[ufL,wrL,List.range_succ,Ino.ns,Ino.map]
theorem sz3:(Tryz.prog.info? 3).map (·.size)=some 1:=by kernel_rfl
theorem zir (i:Int) (x:Ino) (w:World) (hT:TS w) (hE:ED w) (hr:x.R) :
  Calls Tryz.prog 300 #[.int .i64 i,x.v] w fun e w'=>∃ v',e=.returned (.tuple #[v',.int .i64 (iuC i x)])∧Row w' 180 2 w.heap.size w'.heap.size v' (iuL i x).length (ses (iuL i x))∧Below w.heap.size w w':=by
 have hv:x.v=.agg x.cs.toArray:=rfl;have BW:Hid (Below w.heap.size w (w.alloc (.cells x.cs.toArray 133))):=(Below.refl _ _).alloc (Nat.le_refl _) _
 have CA:Hid (∀ w',Below (w.alloc (.cells x.cs.toArray 133)).heap.size (w.alloc (.cells x.cs.toArray 133)) w'→∀ j,w'.cell? ⟨w.heap.size,j,none⟩=x.cs[j]?):=fun w' hb j=>by
  have:w'.heap[w.heap.size]?=some (.cells x.cs.toArray 133 (0,0)):=(hb.block _ (by simp)).trans (zah rfl);exact (zae (xs:=x.cs) this j).1
 have T:Hid (TS (w.alloc (.cells x.cs.toArray 133))):=hT.below BW.o;have TE:Hid (ED (w.alloc (.cells x.cs.toArray 133))):=hE.below BW.o;have LF:=zaa (fun w1 (h:TS w1) (g:ED w1)=>zpj x w1 h g hr)
 have hz:w.heap.size < (w.alloc (.cells x.cs.toArray 133)).heap.size:=by simp
 obtain ⟨W,hW⟩:∃ W,W=w.alloc (.cells x.cs.toArray 133):=⟨_,rfl⟩
 rw[← hW] at BW CA T TE hz;rw[hv];clear hT hE hr
 rcases yalw i x with ⟨c1,e1,e2⟩ | ⟨c1,c2,e1,e2⟩ | ⟨c1,c2,e1,e2⟩
 ·rw[e1,e2];obtain ⟨k1,k2⟩:=zzg (i:=i) (f:=0) (by omega);have K1:=zaa k1;have K2:=zaa k2;clear e1 e2 c1 k1 k2;go_enter Tryz.func300,Tryz.ntmps300;go_wp2_with fail;rw[← hW];clear hW;refine (zen _ _ _).mono ?_;rw[K2.o];rintro e w' ⟨rfl,hw'⟩;subst w';go_wp2;go_ret2;exact ⟨_,rfl,Row.nil _ _ _ _ _,BW.o⟩
 ·rw[e1,e2];obtain ⟨k1,k2⟩:=yaai (i:=i) (f:=0) (by omega) (by omega);have K1:=zaa k1;have K2:=zaa k2;have C2:=zaa c2;clear e1 e2 c1 c2 k1 k2;go_enter Tryz.func300,Tryz.ntmps300;go_wp2_with fail;rw[← hW];clear hW;refine (zen _ _ _).mono ?_;rw[K1.o,K2.o];rintro e w' ⟨rfl,hw'⟩;subst w';obtain ⟨p0,p1,p2,p3,p4,p5,p6,p7,p8,p9,p10⟩:=Ino.all (CA.o W (Below.refl _ _));go_wp2_with fail;refine (LF.o _ T.o TE.o).mono ?_;rw[C2.o];rintro e w1 ⟨rfl,hb⟩;have B1:=zaa (zab BW.o hb (by omega));clear hb p0 p1 p2 p3 p4 p5 p6 p7 p8 p9 p10;go_wp2;go_ret2;exact ⟨_,rfl,Row.nil _ _ _ _ _,B1.o⟩
 ·rw[e1,e2];obtain ⟨k1,k2⟩:=yaai (i:=i) (f:=0) (by omega) (by omega);have K1:=zaa k1;have K2:=zaa k2;have C2:=zaa c2;have UF:=zaa (yatr i x);have RA:=zaa (show 0≤48+12*i∧48+12*i≤1000 by omega);clear e1 e2 c1 c2 k1 k2;go_enter Tryz.func300,Tryz.ntmps300;go_wp2_with fail;rw[← hW];clear hW;refine (zen _ _ _).mono ?_;rw[K1.o,K2.o];rintro e w' ⟨rfl,hw'⟩;subst w';obtain ⟨p0,p1,p2,p3,p4,p5,p6,p7,p8,p9,p10⟩:=Ino.all (CA.o W (Below.refl _ _));go_wp2_with fail;refine (LF.o _ T.o TE.o).mono ?_;rw[C2.o];rintro e w1 ⟨rfl,hb⟩;have B1:=zaa (zab BW.o hb (by omega));have hz1:W.heap.size≤w1.heap.size:=hb.size;have HB:=zaa hb;obtain ⟨d0,d1,d2,d3,d4,d5,d6,d7,d8,d9,d10⟩:=Ino.all (CA.o w1 hb);clear hb p0 p1 p2 p3 p4 p5 p6 p7 p8 p9 p10;go_wp2_with fail;clear d0 d1 d2 d3 d4 d5 d6 d7 d8 d9 d10
  obtain ⟨wb,hwb⟩:∃ wb,wb=w1.alloc (.cells (preC x).toArray 333):=⟨_,rfl⟩
  have HC:Hid (Below w1.heap.size w1 wb):=by rw[hwb];exact (Below.refl _ _).alloc (Nat.le_refl _) _
  have HZ:w1.heap.size < wb.heap.size:=by rw[hwb];simp
  have HG:Hid (∀ w',Below wb.heap.size wb w'→w'.heap[w1.heap.size]?=some (.cells (preC x).toArray 333 (0,0))):=fun w' hb=>(hb.block _ HZ).trans (by rw[hwb];exact zah rfl)
  have HS:Hid (∀ w',Below wb.heap.size wb w'→∀ j v,(mapC x)[j]?=some v→w'.cell? ((⟨w.heap.size,3,none⟩:Addr).add j)=some v):=fun w' hb j v hv=>by rw[Addr.add_lit];exact (CA.o w' (zab (zab HB.o HC.o hz1) hb (by omega)) (3+j)).trans (yanz x j v hv)
  have HD:Hid (∀ w',Below wb.heap.size wb w'→Below w1.heap.size w1 w'):=fun w' hb=>zab HC.o hb (by omega)
  unfold preC at hwb;rw[← hwb];clear hwb;have s1:=yacs w1.heap.size;have s2:=yapm w.heap.size;have s3:=yafs w1.heap.size
  go_region_held3 (fun _=>True) (trivial)
   (first
    | (refine step_copy_splice rfl (.tmp 27) (.tmp 29) 22 22 rfl 3 Tryz.underlying22 sz3 _ _ _ _ _ _ rfl rfl w1.heap.size 3 (preC x) 333 (HG.o _ (by repeat (first | exact Below.refl _ _ | refine Below.drew ?_))) (mapC x) rfl (fun _=>⟨rfl,_,rfl,HS.o _ (by repeat (first | exact Below.refl _ _ | refine Below.drew ?_))⟩) (Nat.le_refl 11) (yamk x) w1.heap.size w1 (HD.o _ (by repeat (first | exact Below.refl _ _ | refine Below.drew ?_))) (Nat.le_refl _) ?_;intro w4 hg4 hb4))
  all_goals
   rw[yadb] at hg4;have R4:=zaa (yatp hg4.o);have B4:=zaa (zab B1.o hb4 (by omega));have hz4:w1.heap.size≤w4.heap.size:=hb4.size;clear hg4 hb4 HG HS HD HC s1 s2;go_wp2_with fail;refine (zhs _ _ x.ns _ R4.o (show (11:Nat)≤64 by omega) RA.o).mono ?_;rw[UF.o];rintro e w5 ⟨v5,rfl,hr5,hb5⟩;obtain ⟨-,aL,cL,hvL,-⟩:=hr5.rd;subst hvL;have R5:=zaa (hr5.wide (by omega:w.heap.size≤w4.heap.size) (Nat.le_refl _));have B5:=zaa (zab B4.o hb5 (by omega));clear hr5 hb5;go_wp2;go_ret2;exact ⟨_,rfl,R5.o,B5.o⟩
def FD (w:World):Prop:=∃ t fr,w.heap[0]?=some (.cells #[.int .i64 0,.string ⟨#[]⟩,.int .i64 (-1)] t fr)
theorem FD.lt {w:World} (h:FD w):0 < w.heap.size:=by
 obtain ⟨t,fr,h⟩:=h;exact (Array.getElem?_eq_some_iff.1 h).1
theorem FD.below {w w':World} (h:FD w) (hb:Below w.heap.size w w'):FD w':=by
 have hl:=h.lt;obtain ⟨t,fr,h⟩:=h;exact ⟨t,fr,(hb.block _ hl).trans h⟩
theorem FD.cells {w:World} (h:FD w):w.cell? ⟨0,0,none⟩=some (.int .i64 0)∧w.cell? ⟨0,1,none⟩=some (.string ⟨#[]⟩)∧w.cell? ⟨0,2,none⟩=some (.int .i64 (-1)):=by
 obtain ⟨t,fr,h⟩:=h;simp[World.cell?,h]
def zhe (a:Int) (s:ByteArray) (c a':Int) (s':ByteArray) (c':Int):Bool:=(a == a') && ((s.toList == s'.toList) && (c == c'))
@[go_sem ↓] theorem yatx (a:Int) (s:ByteArray) (c a':Int) (s':ByteArray) (c':Int) (w:World):(Op.equalIn 10000 185 (.agg #[.int .i64 a,.string s,.int .i64 c]) (.agg #[.int .i64 a',.string s',.int .i64 c'])).run Tryz.prog w=.ok (zhe a s c a' s' c') w:=by
 unfold zhe
 cases g0:(a == a')
 ·go_simp
 cases g1:(s.toList == s'.toList)
 ·go_simp
 cases g2:(c == c')
 ·go_simp
 ·go_simp
theorem zyv:(⟨#[]⟩:ByteArray).toList=[]:=(zpr _).2 rfl
theorem zjy (x:Den):zhe x.dir x.name x.child 0 ⟨#[]⟩ (-1)=x.freeB:=by
 unfold zhe Den.freeB
 congr 2
 rw[zyv,Bool.eq_iff_iff,beq_iff_eq,beq_iff_eq];exact zpr x.name
theorem Den.okB_free {x:Den} (h:x.freeB=true):x.okB=true:=by unfold Den.okB;rw[h];rfl
theorem Den.okB_not {x:Den} (h:x.freeB=false):x.okB=(decide (1≤x.child∧x.child≤15) && (decide (0≤x.dir∧x.dir≤15) && nmB x.name)):=by unfold Den.okB;rw[h,Bool.false_or]
theorem yacx (s:ByteArray):(zqm s == 0)=nmB s:=by
 unfold zqm
 cases h:nmB s with
 | true =>
  have:=(of_decide_eq_true h:1≤s.size∧s.size≤6∧_)
  rw[if_neg (by omega),if_pos rfl];rfl
 | false =>
  split
  ·rfl
  ·rw[if_neg (by decide)];rfl
theorem zhv (s:ByteArray) (w:World) (hs:s.size≤maxLen):Calls Tryz.prog 234 #[.string s] w fun e w'=>e=.returned (.bool (nmB s))∧Below w.heap.size w w':=by
 have P:=zaa (yacx s);have LP:=zaa (fun w1=>zha s w1 hs);generalize zqk s=pv at *;generalize zqm s=pc at *;clear hs;go_enter Tryz.func234,Tryz.ntmps234;go_wp2_with fail;refine (LP.o _).mono ?_;rintro e w1 ⟨rfl,hb1⟩;go_wp2;go_ret;exact ⟨zaf P.o,hb1⟩
theorem zmf (x:Den) (w:World) (hF:FD w) (hs:x.name.size≤maxLen):Calls Tryz.prog 165 #[x.v] w fun e w'=>e=.returned (.bool x.okB)∧Below w.heap.size w w':=by
 have LN:=zaa (fun w1=>zhv x.name w1 hs);have DF:=zjy x;have OF:=@Den.okB_free x;have ON:=@Den.okB_not x;obtain ⟨d,s,c⟩:=x;simp only at LN DF ON hs;unfold Den.v;simp only;have BW:=zaa ((Below.refl w.heap.size w).alloc (Nat.le_refl _) (.cells #[.int .i64 d,.string s,.int .i64 c] 185))
 have CB:Hid (∀ w',Below (w.alloc (.cells #[.int .i64 d,.string s,.int .i64 c] 185)).heap.size (w.alloc (.cells #[.int .i64 d,.string s,.int .i64 c] 185)) w'→w'.cell? ⟨w.heap.size,0,none⟩=some (.int .i64 d)∧w'.cell? ⟨w.heap.size,1,none⟩=some (.string s)∧w'.cell? ⟨w.heap.size,2,none⟩=some (.int .i64 c)):=fun w' hb=>zaz ((hb.block _ (by simp)).trans (zah rfl))
 obtain ⟨x0,x1,x2⟩:=CB.o _ (Below.refl _ _);obtain ⟨f0,f1,f2⟩:=FD.cells (hF.below BW.o);clear hF hs
 cases h0:(Den.mk d s c).freeB with
 | true =>
  rw[h0] at DF;have E:=zaa (OF h0);clear OF ON LN CB h0;go_enter Tryz.func165,Tryz.ntmps165;go_wp2;go_ret;exact ⟨zaf E.o.symm,BW.o⟩
 | false =>
  rw[h0] at DF;have E:=zaa (ON h0);clear OF ON h0
  cases h1:nmB s with
  | false =>
   rw[h1] at E;have N1:=zaa h1;clear h1 CB;go_enter Tryz.func165,Tryz.ntmps165;go_wp2_with fail;refine (LN.o _).mono ?_;rw[N1.o];rintro e w1 ⟨rfl,hb1⟩;have B1:=zaa (zab BW.o hb1 BW.o.size);clear hb1 x0 x1 x2 f0 f1 f2;go_wp2;go_ret;exact ⟨zaf (by rw[E.o,Bool.and_false,Bool.and_false]),B1.o⟩
  | true =>
   rw[h1] at E;have N1:=zaa h1;clear h1
   by_cases h2:0≤d∧d < 16
   case neg =>
    have E2:=zaa (show (Den.mk d s c).okB=false by rw[E.o,decide_eq_false (show ¬ (0≤d∧d≤15) by omega),Bool.false_and,Bool.and_false]);have H2:=zaa h2;clear h2 E;go_enter Tryz.func165,Tryz.ntmps165;go_wp2_with fail;refine (LN.o _).mono ?_;rw[N1.o];rintro e w1 ⟨rfl,hb1⟩;have B1:=zaa (zab BW.o hb1 BW.o.size);clear x0 x1 x2 f0 f1 f2;obtain ⟨x0,x1,x2⟩:=CB.o _ hb1;clear hb1 CB;go_wp2_with fail;refine (zbi _ _ _ H2.o).mono ?_;rintro e w' ⟨rfl,hw'⟩;subst w';go_wp2;go_ret;exact ⟨zaf E2.o.symm,B1.o⟩
   by_cases h3:0≤c∧c < 16
   case neg =>
    have E2:=zaa (show (Den.mk d s c).okB=false by rw[E.o,decide_eq_false (show ¬ (1≤c∧c≤15) by omega),Bool.false_and]);have H2:=zaa h2;have H3:=zaa h3;clear h2 h3 E;go_enter Tryz.func165,Tryz.ntmps165;go_wp2_with fail;refine (LN.o _).mono ?_;rw[N1.o];rintro e w1 ⟨rfl,hb1⟩;have B1:=zaa (zab BW.o hb1 BW.o.size);clear x0 x1 x2 f0 f1 f2;obtain ⟨x0,x1,x2⟩:=CB.o _ hb1;clear hb1 CB;go_wp2_with fail;refine (zaq _ _ _ H2.o).mono ?_;rintro e w' ⟨rfl,hw'⟩;subst w';go_wp2_with fail;refine (zbi _ _ _ H3.o).mono ?_;rintro e w' ⟨rfl,hw'⟩;subst w';go_wp2;go_ret;exact ⟨zaf E2.o.symm,B1.o⟩
   have E2:=zaa (show (Den.mk d s c).okB=(c != 0) by
    rw[E.o,decide_eq_true (show 0≤d∧d≤15 by omega)]
    by_cases h:c=0
    ·rw[h];rfl
    ·rw[decide_eq_true (show 1≤c∧c≤15 by omega),eq_comm];simpa using h)
   have H2:=zaa h2;have H3:=zaa h3;clear h2 h3 E;go_enter Tryz.func165,Tryz.ntmps165;go_wp2_with fail;refine (LN.o _).mono ?_;rw[N1.o];rintro e w1 ⟨rfl,hb1⟩;have B1:=zaa (zab BW.o hb1 BW.o.size);clear x0 x1 x2 f0 f1 f2;obtain ⟨x0,x1,x2⟩:=CB.o _ hb1;clear hb1 CB;go_wp2_with fail;refine (zaq _ _ _ H2.o).mono ?_;rintro e w' ⟨rfl,hw'⟩;subst w';go_wp2_with fail;refine (zaq _ _ _ H3.o).mono ?_;rintro e w' ⟨rfl,hw'⟩;subst w';go_wp2;go_ret;exact ⟨zaf E2.o.symm,B1.o⟩
theorem yako (b:Nat) (w:World):(Instr.sliceAt 290 (.pointer (some ⟨b,0,none⟩)) none none none).run Tryz.prog w=.ok (.slice (some ⟨b,0,none⟩) 3 3) w:=by
 have al:Tryz.prog.arrayLen 290=3:=by kernel_rfl
 rw[run_sliceAt_array_all w 290 ⟨b,0,none⟩ (by kernel_rfl),al]
 have sz:(sizeOf (Tryz.prog.elem 290)).run Tryz.prog w=.ok 1 w:=by kernel_rfl
 rw[sz];simp[Result.andThen,slicedAt,Addr.add]
theorem yakj {w:World} {b:Nat} {t:TypeId} {x y z:Int} (h:w.heap[b]?=some (.cells #[.int .i64 x,.int .i64 y,.int .i64 z] t (0,0))):RdI w (.slice (some ⟨b,0,none⟩) 3 3) [x,y,z]:=by
 refine ⟨by rw[zjz,Nat.mul_one],some ⟨b,0,none⟩,3,rfl,⟨Nat.le_refl _,fun e=>by cases e⟩,fun _=>⟨b,0,rfl,(Array.getElem?_eq_some_iff.1 h).1,fun j hj=>?_⟩⟩;rw[Nat.zero_add];exact (zae (xs:=[.int .i64 x,.int .i64 y,.int .i64 z]) h j).1
theorem yafn {s:ByteArray} (h:s.size=0):pk s s.size=0:=by
 rw[h];rfl
theorem yamz {x:Den} (h:x.okB=true):zqk x.name=((pk x.name x.name.size:Nat):Int):=by
 cases hn:nmB x.name with
 | true=>exact (yabu hn).1
 | false =>
  have hf:x.freeB=true:=by
   unfold Den.okB at h;rw[hn,Bool.and_false,Bool.and_false,Bool.or_false] at h;exact h
  unfold Den.freeB at hf;simp only[Bool.and_eq_true,beq_iff_eq] at hf;rw[yafn hf.2.1];unfold zqk;rw[hn];rfl
theorem yamm {x:Den} (h:x.okB=true):-1≤x.child∧x.child≤15:=by
 unfold Den.okB Den.freeB at h;simp only[Bool.or_eq_true,Bool.and_eq_true,beq_iff_eq,decide_eq_true_eq] at h;omega
theorem yatj (k:Int) (x:Den):ufL (240+3*k) [x.dir,((pk x.name x.name.size:Nat):Int),x.child+1] 3=enL k x:=by
 simp[ufL,enL,List.range_succ]
theorem zbx (k:Int) (x:Den) (w:World) (hF:FD w) (hs:x.name.size≤maxLen) :
  Calls Tryz.prog 254 #[.int .i64 k,x.v] w fun e w'=>∃ v',e=.returned (.tuple #[v',.int .i64 (duC k x)])∧Row w' 180 2 w.heap.size w'.heap.size v' (duL k x).length (ses (duL k x))∧Below w.heap.size w w':=by
 have LF:=zaa (fun w1 (h:FD w1)=>zmf x w1 h hs);have LP:=zaa (fun w1=>zha x.name w1 hs);have PV:=@yamz x;have KC:=@yamm x;have UE:=zaa (yatj k x);have DC:=yamx k x;have BW:=zaa ((Below.refl w.heap.size w).alloc (Nat.le_refl _) (.cells #[.int .i64 x.dir,.string x.name,.int .i64 x.child] 185))
 have CB:Hid (∀ w',Below (w.alloc (.cells #[.int .i64 x.dir,.string x.name,.int .i64 x.child] 185)).heap.size (w.alloc (.cells #[.int .i64 x.dir,.string x.name,.int .i64 x.child] 185)) w'→w'.cell? ⟨w.heap.size,0,none⟩=some (.int .i64 x.dir)∧w'.cell? ⟨w.heap.size,1,none⟩=some (.string x.name)∧w'.cell? ⟨w.heap.size,2,none⟩=some (.int .i64 x.child)):=fun w' hb=>zaz ((hb.block _ (by simp)).trans (zah rfl))
 have F:Hid (FD (w.alloc (.cells #[.int .i64 x.dir,.string x.name,.int .i64 x.child] 185))):=hF.below BW.o
 have hz:w.heap.size < (w.alloc (.cells #[.int .i64 x.dir,.string x.name,.int .i64 x.child] 185)).heap.size:=by simp
 obtain ⟨W,hW⟩:∃ W,W=w.alloc (.cells #[.int .i64 x.dir,.string x.name,.int .i64 x.child] 185):=⟨_,rfl⟩
 rw[← hW] at BW CB F hz;rw[show x.v=.agg #[.int .i64 x.dir,.string x.name,.int .i64 x.child] from rfl];clear hF hs
 rcases DC with ⟨c1,e1,e2⟩ | ⟨c1,c2,e1,e2⟩ | ⟨c1,c2,e1,e2⟩
 ·rw[e1,e2];obtain ⟨k1,k2⟩:=zzx (i:=k) (f:=0) (by omega);have K1:=zaa k1;have K2:=zaa k2;clear e1 e2 c1 k1 k2 PV KC;go_enter Tryz.func254,Tryz.ntmps254;go_wp2_with fail;rw[← hW];clear hW;refine (zfp _ _ _).mono ?_;rw[K2.o];rintro e w' ⟨rfl,hw'⟩;subst w';go_wp2;go_ret2;exact ⟨_,rfl,Row.nil _ _ _ _ _,BW.o⟩
 ·rw[e1,e2];obtain ⟨k1,k2⟩:=yait (i:=k) (f:=0) (by omega) (by omega);have K1:=zaa k1;have K2:=zaa k2;have C2:=zaa c2;clear e1 e2 c1 c2 k1 k2 PV KC;go_enter Tryz.func254,Tryz.ntmps254;go_wp2_with fail;rw[← hW];clear hW;refine (zfp _ _ _).mono ?_;rw[K1.o,K2.o];rintro e w' ⟨rfl,hw'⟩;subst w';obtain ⟨p0,p1,p2⟩:=CB.o W (Below.refl _ _);go_wp2_with fail;refine (LF.o _ F.o).mono ?_;rw[C2.o];rintro e w1 ⟨rfl,hb⟩;have B1:=zaa (zab BW.o hb (by omega));clear hb p0 p1 p2;go_wp2;go_ret2;exact ⟨_,rfl,Row.nil _ _ _ _ _,B1.o⟩
 ·rw[e1,e2];obtain ⟨k1,k2⟩:=yait (i:=k) (f:=0) (by omega) (by omega);have K1:=zaa k1;have K2:=zaa k2;have C2:=zaa c2;have P2:=zaa (PV c2);obtain ⟨b0,b1⟩:=KC c2;have RA:=zaa (show 0≤240+3*k∧240+3*k≤1000 by omega);clear e1 e2 c1 c2 k1 k2 PV KC;go_enter Tryz.func254,Tryz.ntmps254;go_wp2_with fail;rw[← hW];clear hW;refine (zfp _ _ _).mono ?_;rw[K1.o,K2.o];rintro e w' ⟨rfl,hw'⟩;subst w';obtain ⟨p0,p1,p2⟩:=CB.o W (Below.refl _ _);go_wp2_with fail;refine (LF.o _ F.o).mono ?_;rw[C2.o];rintro e w1 ⟨rfl,hb⟩;have B1:=zaa (zab BW.o hb (by omega));have H1:=zaa hb;have hz1:W.heap.size≤w1.heap.size:=hb.size;clear p0 p1 p2;obtain ⟨p0,p1,p2⟩:=CB.o w1 hb;clear hb;go_wp2_with fail;refine (LP.o _).mono ?_;rw[P2.o];rintro e w2 ⟨rfl,hb⟩;have B2:=zaa (zab B1.o hb (by omega));have H2:=zaa (zab H1.o hb (by omega));have hz2:w1.heap.size≤w2.heap.size:=hb.size;clear p0 p1 p2;obtain ⟨p0,p1,p2⟩:=CB.o w2 H2.o;generalize ((pk x.name x.name.size:Nat):Int)=pv at *;clear hb H1 H2 B1;have B3:=zaa (B2.o.alloc (by omega) (.cells #[.int .i64 x.dir,.int .i64 pv,.int .i64 (x.child+1)] 290));have R3:=zaa (yakj (w:=w2.alloc (.cells #[.int .i64 x.dir,.int .i64 pv,.int .i64 (x.child+1)] 290)) (zah rfl));have s3:=yako w2.heap.size;go_wp2_with fail;refine (zhs _ _ [x.dir,pv,x.child+1] _ R3.o (show (3:Nat)≤64 by omega) RA.o).mono ?_;rw[show [x.dir,pv,x.child+1].length=3 from rfl,UE.o];rintro e w5 ⟨v5,rfl,hr5,hb5⟩;obtain ⟨-,aL,cL,hvL,-⟩:=hr5.rd;subst hvL;have R5:=zaa (hr5.wide (B3.o.size) (Nat.le_refl _));have B5:=zaa (zab B3.o hb5 B3.o.size);clear hr5 hb5;go_wp2;go_ret2;exact ⟨_,rfl,R5.o,B5.o⟩
end Go.Proofs.YtehnphoeplmpdaaGreatDoor
