/- Several texts laid together: PiE, PiF. -/
import Derived.Test.YtbohndgbfbfldaaGreatDoorZAI
import Derived.Deep.RegionLaw
import Derived.Test.YtbohndgbfbfldaaGreatDoorZAG
set_option maxRecDepth 100000
set_option maxHeartbeats 4000000
namespace Go.Proofs.YtbohndgbfbfldaaGreatDoor
open Go.RowKit
theorem zse (b:Nat) (w:World):(Instr.sliceAt 194 (.pointer (some ⟨b,0,none⟩)) (some (.int .i64 3)) none none).run Tryz.prog w=.ok (.slice (some ⟨b,3,none⟩) 8 8) w:=by
 have al:Tryz.prog.arrayLen 194=11:=by kernel_rfl
 rw[run_sliceAt_array_l w 194 ⟨b,0,none⟩ (by kernel_rfl) .i64 3 (by omega) (by rw[al];omega),al]
 have sz:(sizeOf (Tryz.prog.elem 194)).run Tryz.prog w=.ok 1 w:=by kernel_rfl
 rw[sz];simp[Result.andThen,slicedAt,Addr.add]
theorem zwf (b:Nat) (w:World):(Instr.sliceAt 194 (.pointer (some ⟨b,0,none⟩)) none none none).run Tryz.prog w=.ok (.slice (some ⟨b,0,none⟩) 11 11) w:=by
 have al:Tryz.prog.arrayLen 194=11:=by kernel_rfl
 rw[run_sliceAt_array_all w 194 ⟨b,0,none⟩ (by kernel_rfl),al]
 have sz:(sizeOf (Tryz.prog.elem 194)).run Tryz.prog w=.ok 1 w:=by kernel_rfl
 rw[sz];simp[Result.andThen,slicedAt,Addr.add]
theorem yade (b:Nat) (w:World):(Instr.sliceAt 147 (.pointer (some ⟨b,3,none⟩)) none none none).run Tryz.prog w=.ok (.slice (some ⟨b,3,none⟩) 8 8) w:=by
 have al:Tryz.prog.arrayLen 147=8:=by kernel_rfl
 rw[run_sliceAt_array_all w 147 ⟨b,3,none⟩ (by kernel_rfl),al]
 have sz:(sizeOf (Tryz.prog.elem 147)).run Tryz.prog w=.ok 1 w:=by kernel_rfl
 rw[sz];simp[Result.andThen,slicedAt,Addr.add]
def preC (x:Ino):List Value:=[.int .i64 x.kind,.int .i64 x.size,.int .i64 x.links,.int .i64 0,.int .i64 0,.int .i64 0,.int .i64 0,.int .i64 0,.int .i64 0,.int .i64 0,.int .i64 0]
def mapC (x:Ino):List Value:=[.int .i64 x.m0,.int .i64 x.m1,.int .i64 x.m2,.int .i64 x.m3,.int .i64 x.m4,.int .i64 x.m5,.int .i64 x.m6,.int .i64 x.m7]
theorem zsw (x:Ino):splice (preC x) 3 (mapC x)=x.cs:=rfl
theorem yaae (x:Ino):∀ v∈mapC x,v.oneCell'=true:=by
 intro v hv;simp[mapC] at hv
 rcases hv with rfl | rfl | rfl | rfl | rfl | rfl | rfl | rfl <;> rfl
theorem yacr (x:Ino) (j:Nat) (v:Value) (h:(mapC x)[j]?=some v):x.cs[3+j]?=some v:=by
 have hj:j < 8:=by
  have:=(List.getElem?_eq_some_iff.1 h).1;exact this
 rcases (show j=0∨j=1∨j=2∨j=3∨j=4∨j=5∨j=6∨j=7 by omega) with rfl | rfl | rfl | rfl | rfl | rfl | rfl | rfl <;> exact h
theorem yafm (x:Ino):zbk x.ns=x.cs:=rfl
theorem yafv {x:Ino} {w:World} {b:Nat} {t:TypeId} (h:w.heap[b]?=some (.cells x.cs.toArray t (0,0))):RdI w (.slice (some ⟨b,0,none⟩) 11 11) x.ns:=by
 refine ⟨by rw[zbz,Nat.mul_one],some ⟨b,0,none⟩,11,rfl,⟨Nat.le_refl _,fun e=>by cases e⟩,fun _=>⟨b,0,rfl,(Array.getElem?_eq_some_iff.1 h).1,fun j hj=>?_⟩⟩;rw[Nat.zero_add,yafm];exact (zag (xs:=x.cs) h j).1
theorem yafu (i:Int) (x:Ino):ufL (48+12*i) x.ns x.ns.length=wrL i x 8:=by
 have e1:x.ns.length=11:=rfl;rw[e1];simp[ufL,wrL,List.range_succ,Ino.ns,Ino.map]
theorem sz3:(Tryz.prog.info? 3).map (·.size)=some 1:=by kernel_rfl
theorem zeh (i:Int) (x:Ino) (w:World) (hT:TS w) (hE:ED w) (hr:x.R) :
  Calls Tryz.prog 99 #[.int .i64 i,x.v] w fun e w'=>∃ v',e=.returned (.tuple #[v',.int .i64 (iuC i x)])∧Row w' 151 2 w.heap.size w'.heap.size v' (iuL i x).length (ses (iuL i x))∧Below w.heap.size w w':=by
 have hv:x.v=.agg x.cs.toArray:=rfl;have BW:Hid (Below w.heap.size w (w.alloc (.cells x.cs.toArray 149))):=(Below.refl _ _).alloc (Nat.le_refl _) _
 have CA:Hid (∀ w',Below (w.alloc (.cells x.cs.toArray 149)).heap.size (w.alloc (.cells x.cs.toArray 149)) w'→∀ j,w'.cell? ⟨w.heap.size,j,none⟩=x.cs[j]?):=fun w' hb j=>by
  have:w'.heap[w.heap.size]?=some (.cells x.cs.toArray 149 (0,0)):=(hb.block _ (by simp)).trans (zae rfl);exact (zag (xs:=x.cs) this j).1
 have T:Hid (TS (w.alloc (.cells x.cs.toArray 149))):=hT.below BW.o;have TE:Hid (ED (w.alloc (.cells x.cs.toArray 149))):=hE.below BW.o;have LF:=zaa (fun w1 (h:TS w1) (g:ED w1)=>zil x w1 h g hr)
 have hz:w.heap.size < (w.alloc (.cells x.cs.toArray 149)).heap.size:=by simp
 obtain ⟨W,hW⟩:∃ W,W=w.alloc (.cells x.cs.toArray 149):=⟨_,rfl⟩
 rw[← hW] at BW CA T TE hz;rw[hv];clear hT hE hr
 rcases zyq i x with ⟨c1,e1,e2⟩ | ⟨c1,c2,e1,e2⟩ | ⟨c1,c2,e1,e2⟩
 ·rw[e1,e2];obtain ⟨k1,k2⟩:=zoo (i:=i) (f:=0) (by omega);have K1:=zaa k1;have K2:=zaa k2;clear e1 e2 c1 k1 k2;go_enter Tryz.func99,Tryz.ntmps99;go_wp2_with fail;rw[← hW];clear hW;refine (zdo _ _ _).mono ?_;rw[K2.o];rintro e w' ⟨rfl,hw'⟩;subst w';go_wp2;go_ret2;exact ⟨_,rfl,Row.nil _ _ _ _ _,BW.o⟩
 ·rw[e1,e2];obtain ⟨k1,k2⟩:=zvy (i:=i) (f:=0) (by omega) (by omega);have K1:=zaa k1;have K2:=zaa k2;have C2:=zaa c2;clear e1 e2 c1 c2 k1 k2;go_enter Tryz.func99,Tryz.ntmps99;go_wp2_with fail;rw[← hW];clear hW;refine (zdo _ _ _).mono ?_;rw[K1.o,K2.o];rintro e w' ⟨rfl,hw'⟩;subst w';obtain ⟨p0,p1,p2,p3,p4,p5,p6,p7,p8,p9,p10⟩:=Ino.all (CA.o W (Below.refl _ _));go_wp2_with fail;refine (LF.o _ T.o TE.o).mono ?_;rw[C2.o];rintro e w1 ⟨rfl,hb⟩;have B1:=zaa (zab BW.o hb (by omega));clear hb p0 p1 p2 p3 p4 p5 p6 p7 p8 p9 p10;go_wp2;go_ret2;exact ⟨_,rfl,Row.nil _ _ _ _ _,B1.o⟩
 ·rw[e1,e2];obtain ⟨k1,k2⟩:=zvy (i:=i) (f:=0) (by omega) (by omega);have K1:=zaa k1;have K2:=zaa k2;have C2:=zaa c2;have UF:=zaa (yafu i x);have RA:=zaa (show 0≤48+12*i∧48+12*i≤1000 by omega);clear e1 e2 c1 c2 k1 k2;go_enter Tryz.func99,Tryz.ntmps99;go_wp2_with fail;rw[← hW];clear hW;refine (zdo _ _ _).mono ?_;rw[K1.o,K2.o];rintro e w' ⟨rfl,hw'⟩;subst w';obtain ⟨p0,p1,p2,p3,p4,p5,p6,p7,p8,p9,p10⟩:=Ino.all (CA.o W (Below.refl _ _));go_wp2_with fail;refine (LF.o _ T.o TE.o).mono ?_;rw[C2.o];rintro e w1 ⟨rfl,hb⟩;have B1:=zaa (zab BW.o hb (by omega));have hz1:W.heap.size≤w1.heap.size:=hb.size;have HB:=zaa hb;obtain ⟨d0,d1,d2,d3,d4,d5,d6,d7,d8,d9,d10⟩:=Ino.all (CA.o w1 hb);clear hb p0 p1 p2 p3 p4 p5 p6 p7 p8 p9 p10;go_wp2_with fail;clear d0 d1 d2 d3 d4 d5 d6 d7 d8 d9 d10
  obtain ⟨wb,hwb⟩:∃ wb,wb=w1.alloc (.cells (preC x).toArray 194):=⟨_,rfl⟩
  have HC:Hid (Below w1.heap.size w1 wb):=by rw[hwb];exact (Below.refl _ _).alloc (Nat.le_refl _) _
  have HZ:w1.heap.size < wb.heap.size:=by rw[hwb];simp
  have HG:Hid (∀ w',Below wb.heap.size wb w'→w'.heap[w1.heap.size]?=some (.cells (preC x).toArray 194 (0,0))):=fun w' hb=>(hb.block _ HZ).trans (by rw[hwb];exact zae rfl)
  have HS:Hid (∀ w',Below wb.heap.size wb w'→∀ j v,(mapC x)[j]?=some v→w'.cell? ((⟨w.heap.size,3,none⟩:Addr).add j)=some v):=fun w' hb j v hv=>by rw[Addr.add_lit];exact (CA.o w' (zab (zab HB.o HC.o hz1) hb (by omega)) (3+j)).trans (yacr x j v hv)
  have HD:Hid (∀ w',Below wb.heap.size wb w'→Below w1.heap.size w1 w'):=fun w' hb=>zab HC.o hb (by omega)
  unfold preC at hwb;rw[← hwb];clear hwb;have s1:=zse w1.heap.size;have s2:=yade w.heap.size;have s3:=zwf w1.heap.size
  go_region_held3 (fun _=>True) (trivial)
   (first
    | (refine step_copy_splice rfl (.tmp 27) (.tmp 29) 22 22 rfl 3 Tryz.underlying22 sz3 _ _ _ _ _ _ rfl rfl w1.heap.size 3 (preC x) 194 (HG.o _ (by repeat (first | exact Below.refl _ _ | refine Below.drew ?_))) (mapC x) rfl (fun _=>⟨rfl,_,rfl,HS.o _ (by repeat (first | exact Below.refl _ _ | refine Below.drew ?_))⟩) (Nat.le_refl 11) (yaae x) w1.heap.size w1 (HD.o _ (by repeat (first | exact Below.refl _ _ | refine Below.drew ?_))) (Nat.le_refl _) ?_;intro w4 hg4 hb4))
  all_goals
   rw[zsw] at hg4;have R4:=zaa (yafv hg4.o);have B4:=zaa (zab B1.o hb4 (by omega));have hz4:w1.heap.size≤w4.heap.size:=hb4.size;clear hg4 hb4 HG HS HD HC s1 s2;go_wp2_with fail;refine (zih _ _ x.ns _ R4.o (show (11:Nat)≤64 by omega) RA.o).mono ?_;rw[UF.o];rintro e w5 ⟨v5,rfl,hr5,hb5⟩;obtain ⟨-,aL,cL,hvL,-⟩:=hr5.rd;subst hvL;have R5:=zaa (hr5.wide (by omega:w.heap.size≤w4.heap.size) (Nat.le_refl _));have B5:=zaa (zab B4.o hb5 (by omega));clear hr5 hb5;go_wp2;go_ret2;exact ⟨_,rfl,R5.o,B5.o⟩
def FD (w:World):Prop:=∃ t fr,w.heap[2]?=some (.cells #[.int .i64 0,.string ⟨#[]⟩,.int .i64 (-1)] t fr)
theorem FD.lt {w:World} (h:FD w):2 < w.heap.size:=by
 obtain ⟨t,fr,h⟩:=h;exact (Array.getElem?_eq_some_iff.1 h).1
theorem FD.below {w w':World} (h:FD w) (hb:Below w.heap.size w w'):FD w':=by
 have hl:=h.lt;obtain ⟨t,fr,h⟩:=h;exact ⟨t,fr,(hb.block _ hl).trans h⟩
theorem FD.cells {w:World} (h:FD w):w.cell? ⟨2,0,none⟩=some (.int .i64 0)∧w.cell? ⟨2,1,none⟩=some (.string ⟨#[]⟩)∧w.cell? ⟨2,2,none⟩=some (.int .i64 (-1)):=by
 obtain ⟨t,fr,h⟩:=h;simp[World.cell?,h]
def zgw (a:Int) (s:ByteArray) (c a':Int) (s':ByteArray) (c':Int):Bool:=(a == a') && ((s.toList == s'.toList) && (c == c'))
@[go_sem ↓] theorem yagd (a:Int) (s:ByteArray) (c a':Int) (s':ByteArray) (c':Int) (w:World):(Op.equalIn 10000 143 (.agg #[.int .i64 a,.string s,.int .i64 c]) (.agg #[.int .i64 a',.string s',.int .i64 c'])).run Tryz.prog w=.ok (zgw a s c a' s' c') w:=by
 unfold zgw
 cases g0:(a == a')
 ·go_simp
 cases g1:(s.toList == s'.toList)
 ·go_simp
 cases g2:(c == c')
 ·go_simp
 ·go_simp
theorem zpi:(⟨#[]⟩:ByteArray).toList=[]:=(zwu _).2 rfl
theorem zql (x:Den):zgw x.dir x.name x.child 0 ⟨#[]⟩ (-1)=x.freeB:=by
 unfold zgw Den.freeB
 congr 2
 rw[zpi,Bool.eq_iff_iff,beq_iff_eq,beq_iff_eq];exact zwu x.name
theorem Den.okB_free {x:Den} (h:x.freeB=true):x.okB=true:=by unfold Den.okB;rw[h];rfl
theorem Den.okB_not {x:Den} (h:x.freeB=false):x.okB=(decide (1≤x.child∧x.child≤15) && (decide (0≤x.dir∧x.dir≤15) && nmB x.name)):=by unfold Den.okB;rw[h,Bool.false_or]
theorem zsl (s:ByteArray):(zjr s == 0)=nmB s:=by
 unfold zjr
 cases h:nmB s with
 | true =>
  have:=(of_decide_eq_true h:1≤s.size∧s.size≤6∧_)
  rw[if_neg (by omega),if_pos rfl];rfl
 | false =>
  split
  ·rfl
  ·rw[if_neg (by decide)];rfl
theorem zib (s:ByteArray) (w:World) (hs:s.size≤maxLen):Calls Tryz.prog 206 #[.string s] w fun e w'=>e=.returned (.bool (nmB s))∧Below w.heap.size w w':=by
 have P:=zaa (zsl s);have LP:=zaa (fun w1=>zgs s w1 hs);generalize zmc s=pv at *;generalize zjr s=pc at *;clear hs;go_enter Tryz.func206,Tryz.ntmps206;go_wp2_with fail;refine (LP.o _).mono ?_;rintro e w1 ⟨rfl,hb1⟩;go_wp2;go_ret;exact ⟨zad P.o,hb1⟩
theorem zmx (x:Den) (w:World) (hF:FD w) (hs:x.name.size≤maxLen):Calls Tryz.prog 185 #[x.v] w fun e w'=>e=.returned (.bool x.okB)∧Below w.heap.size w w':=by
 have LN:=zaa (fun w1=>zib x.name w1 hs);have DF:=zql x;have OF:=@Den.okB_free x;have ON:=@Den.okB_not x;obtain ⟨d,s,c⟩:=x;simp only at LN DF ON hs;unfold Den.v;simp only;have BW:=zaa ((Below.refl w.heap.size w).alloc (Nat.le_refl _) (.cells #[.int .i64 d,.string s,.int .i64 c] 143))
 have CB:Hid (∀ w',Below (w.alloc (.cells #[.int .i64 d,.string s,.int .i64 c] 143)).heap.size (w.alloc (.cells #[.int .i64 d,.string s,.int .i64 c] 143)) w'→w'.cell? ⟨w.heap.size,0,none⟩=some (.int .i64 d)∧w'.cell? ⟨w.heap.size,1,none⟩=some (.string s)∧w'.cell? ⟨w.heap.size,2,none⟩=some (.int .i64 c)):=fun w' hb=>zby ((hb.block _ (by simp)).trans (zae rfl))
 obtain ⟨x0,x1,x2⟩:=CB.o _ (Below.refl _ _);obtain ⟨f0,f1,f2⟩:=FD.cells (hF.below BW.o);clear hF hs
 cases h0:(Den.mk d s c).freeB with
 | true =>
  rw[h0] at DF;have E:=zaa (OF h0);clear OF ON LN CB h0;go_enter Tryz.func185,Tryz.ntmps185;go_wp2;go_ret;exact ⟨zad E.o.symm,BW.o⟩
 | false =>
  rw[h0] at DF;have E:=zaa (ON h0);clear OF ON h0
  cases h1:nmB s with
  | false =>
   rw[h1] at E;have N1:=zaa h1;clear h1 CB;go_enter Tryz.func185,Tryz.ntmps185;go_wp2_with fail;refine (LN.o _).mono ?_;rw[N1.o];rintro e w1 ⟨rfl,hb1⟩;have B1:=zaa (zab BW.o hb1 BW.o.size);clear hb1 x0 x1 x2 f0 f1 f2;go_wp2;go_ret;exact ⟨zad (by rw[E.o,Bool.and_false,Bool.and_false]),B1.o⟩
  | true =>
   rw[h1] at E;have N1:=zaa h1;clear h1
   by_cases h2:0≤d∧d < 16
   case neg =>
    have E2:=zaa (show (Den.mk d s c).okB=false by rw[E.o,decide_eq_false (show ¬ (0≤d∧d≤15) by omega),Bool.false_and,Bool.and_false]);have H2:=zaa h2;clear h2 E;go_enter Tryz.func185,Tryz.ntmps185;go_wp2_with fail;refine (LN.o _).mono ?_;rw[N1.o];rintro e w1 ⟨rfl,hb1⟩;have B1:=zaa (zab BW.o hb1 BW.o.size);clear x0 x1 x2 f0 f1 f2;obtain ⟨x0,x1,x2⟩:=CB.o _ hb1;clear hb1 CB;go_wp2_with fail;refine (zbv _ _ _ H2.o).mono ?_;rintro e w' ⟨rfl,hw'⟩;subst w';go_wp2;go_ret;exact ⟨zad E2.o.symm,B1.o⟩
   by_cases h3:0≤c∧c < 16
   case neg =>
    have E2:=zaa (show (Den.mk d s c).okB=false by rw[E.o,decide_eq_false (show ¬ (1≤c∧c≤15) by omega),Bool.false_and]);have H2:=zaa h2;have H3:=zaa h3;clear h2 h3 E;go_enter Tryz.func185,Tryz.ntmps185;go_wp2_with fail;refine (LN.o _).mono ?_;rw[N1.o];rintro e w1 ⟨rfl,hb1⟩;have B1:=zaa (zab BW.o hb1 BW.o.size);clear x0 x1 x2 f0 f1 f2;obtain ⟨x0,x1,x2⟩:=CB.o _ hb1;clear hb1 CB;go_wp2_with fail;refine (zay _ _ _ H2.o).mono ?_;rintro e w' ⟨rfl,hw'⟩;subst w';go_wp2_with fail;refine (zbv _ _ _ H3.o).mono ?_;rintro e w' ⟨rfl,hw'⟩;subst w';go_wp2;go_ret;exact ⟨zad E2.o.symm,B1.o⟩
   have E2:=zaa (show (Den.mk d s c).okB=(c != 0) by
    rw[E.o,decide_eq_true (show 0≤d∧d≤15 by omega)]
    by_cases h:c=0
    ·rw[h];rfl
    ·rw[decide_eq_true (show 1≤c∧c≤15 by omega),eq_comm];simpa using h)
   have H2:=zaa h2;have H3:=zaa h3;clear h2 h3 E;go_enter Tryz.func185,Tryz.ntmps185;go_wp2_with fail;refine (LN.o _).mono ?_;rw[N1.o];rintro e w1 ⟨rfl,hb1⟩;have B1:=zaa (zab BW.o hb1 BW.o.size);clear x0 x1 x2 f0 f1 f2;obtain ⟨x0,x1,x2⟩:=CB.o _ hb1;clear hb1 CB;go_wp2_with fail;refine (zay _ _ _ H2.o).mono ?_;rintro e w' ⟨rfl,hw'⟩;subst w';go_wp2_with fail;refine (zay _ _ _ H3.o).mono ?_;rintro e w' ⟨rfl,hw'⟩;subst w';go_wp2;go_ret;exact ⟨zad E2.o.symm,B1.o⟩
end Go.Proofs.YtbohndgbfbfldaaGreatDoor
