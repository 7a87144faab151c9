/- Several texts laid together: JiF, JiG. -/
import Derived.Test.YtehnphoeplmpdaaGreatDoorZAW
import Derived.Test.YtehnphoeplmpdaaGreatDoorZAT
import Derived.Test.YtehnphoeplmpdaaGreatDoorZBO
set_option maxRecDepth 100000
set_option maxHeartbeats 4000000
namespace Go.Proofs.YtehnphoeplmpdaaGreatDoor
open Go.RowKit
theorem zmm (zs:List Int):zov zs=allP zs:=by
 unfold zov allP;rw[decide_eq_decide];exact ⟨fun h k hk=>zgs (h k hk),fun h k hk=>decide_eq_true (h k hk)⟩
def zmd:Array Value:=(List.replicate 42 (Value.bool false)).toArray
theorem yaco (w:World):(zeroValue 332).run Tryz.prog w=.ok (.agg zmd) w:=by kernel_rfl
theorem zoy:zmd.size=42:=by unfold zmd;rw[List.size_toArray,List.length_replicate]
theorem yagu (k:Nat) (hk:k < 42):zmd[k]?=some (.bool false):=by unfold zmd;rw[List.getElem?_toArray,List.getElem?_replicate,if_pos hk]
def zhk (zs:List Int) (m j:Nat):Bool:=(List.range m).any (fun i=>zs[i]?.getD 0 / 8 == (j:Int))
theorem yacy (zs:List Int) (m j:Nat):zhk zs (m+1) j=(zhk zs m j || (zs[m]?.getD 0 / 8 == (j:Int))):=by
 unfold zhk;rw[List.range_succ,List.any_append];simp
theorem zzy (zs:List Int) (m:Nat) (hm:m < zs.length) (h0:0≤zs[m]):zhk zs m (zs[m] / 8).toNat=zrv zs m:=by
 have e:(((zs[m] / 8).toNat:Nat):Int)=zs[m] / 8:=by omega
 unfold zhk zrv;rw[e,List.getElem?_eq_getElem hm];rfl
theorem zlr (v:Value) (zs:List Int) (w:World) (h:RdI w v zs) (hn:zs.length≤1048576) :
  Calls Tryz.prog 294 #[v] w fun e w'=>∃ v',e=.returned (.tuple #[v',.int .i64 (flC zs)])∧Row w' 98 3 w.heap.size w'.heap.size v' (fpL zs).length (mis (fpL zs))∧Below w.heap.size w w':=by
 have HR:=zaa h;obtain ⟨aZ,cZ,rfl,_,hcZ⟩:=h.shape;have HZ:=zaa hcZ;clear h hcZ
 rcases yabf zs with ⟨c1,e1,e2⟩ | ⟨c1,c2,e1,e2⟩ | ⟨c1,c2,c3,e1,e2⟩ | ⟨c1,c2,c3,e1,e2⟩
 ·rw[e1,e2];clear e1 e2;go_enter Tryz.func294,Tryz.ntmps294;go_wp2;go_ret2;exact ⟨_,rfl,Row.nil _ _ _ _ _,Below.refl _ _⟩
 ·rw[e1,e2];clear e1 e2;go_enter Tryz.func294,Tryz.ntmps294;go_wp2;go_ret2;exact ⟨_,rfl,Row.nil _ _ _ _ _,Below.refl _ _⟩
 ·rw[e1,e2];have C3:=zaa ((zmm zs).trans c3);clear c3 e1 e2;go_enter Tryz.func294,Tryz.ntmps294;go_wp2_with (go_at_call 155;refine (zix _ zs _ HR.o (by omega)).mono ?_;rw[C3.o];rintro e w' ⟨rfl,hw'⟩;subst w');go_ret2;exact ⟨_,rfl,Row.nil _ _ _ _ _,Below.refl _ _⟩
 ·rw[e1,e2];have C3:=zaa ((zmm zs).trans c3);have Z0:=zaa (of_decide_eq_true c3:∀ k (h:k < zs.length),0≤zs[k]∧zs[k] < 336);clear c3 e1 e2;have hal:=yaco
  have START:Hid ((w.alloc (.cells zmd 332)).rowIs w.heap.size 332 42 (fun k=>.bool (zhk zs 0 k))):=by
   have:=World.rowIs_alloc w zmd 332 (fun k=>.bool (zhk zs 0 k)) (fun k hk=>by rw[zoy] at hk;rw[yagu k hk];rfl);rw[zoy] at this;exact this
  have BS:=zaa ((Below.refl w.heap.size w).alloc (Nat.le_refl _) (.cells zmd 332));go_enter Tryz.func294,Tryz.ntmps294;go_wp2_with (go_at_call 155;refine (zix _ zs _ HR.o (by omega)).mono ?_;rw[C3.o];rintro e w' ⟨rfl,hw'⟩;subst w');clear hal
  go_loopw [5,7,8,20] (fun vL _ _ i wr=>∃ m:Nat,m≤zs.length∧i=.int .i64 m∧Hid (wr.ownsRow (w.heap.size+1) 98 3 vL (nl zs m).length (mis (nl zs m))∧Below w.heap.size w wr∧wr.rowIs w.heap.size 332 42 (fun k=>.bool (zhk zs m k)))∧w.heap.size+1≤wr.heap.size) (fun _ _ _ i _=>zs.length - (intOf i).toNat)
  case atStart=>exact ⟨0,by omega,rfl,⟨World.ownsRow_nil _ _ _ _,BS.o,START.o⟩,by simp⟩
  case round =>
   obtain ⟨m,hm,rfl,I,hz⟩:=hrel
   by_cases hlt:m < zs.length
   ·obtain ⟨b,o,rfl,hbl,hcell⟩:=HZ.o (by omega);have d0:=(I.o.2.1.cell (p:=⟨b,o+m,none⟩) hbl).trans (hcell m hlt);have p0:=Z0.o m hlt;have KN:=zaa (zzy zs m hlt p0.1);have SU:=zaa (fun j=>(yacy zs m j).trans (by rw[List.getElem?_eq_getElem hlt];rfl):∀ j,zhk zs (m+1) j=(zhk zs m j || (zs[m] / 8 == (j:Int))));have NX:=zaa (show nl zs (m+1)=if zrv zs m=true then nl zs m else nl zs m ++ [⟨2,zs[m],0⟩] by rw[nl,List.getElem?_eq_getElem hlt];rfl);have g0:=I.o.2.2.frozen (zs[m] / 8).toNat;have g1:=I.o.2.2.cell (i:=(zs[m] / 8).toNat) (by omega)
    have m0:(0:Int)≤(m:Int):=by omega
    have m1:(m:Int) < (zs.length:Int):=by omega
    clear hcell;generalize zs[m]=y at *;obtain ⟨y0,y1⟩:=p0
    have t0:0≤y / 8:=by omega
    have t1:y / 8 < 42:=by omega
    have yt:Hid (((y / 8).toNat:Int)=y / 8):=by show (((y / 8).toNat:Nat):Int)=y / 8;omega
    cases hk:zrv zs m
    ·rw[KN.o,hk] at g1;have E:=zaa (NX.o.trans (by rw[hk];rfl):nl zs (m+1)=nl zs m ++ [⟨2,y,0⟩]);have F:=zaa (I.o.2.2.set (y / 8).toNat (.bool true));have B2:=zaa (I.o.2.1.setCell (p:=⟨w.heap.size,(y / 8).toNat,none⟩) (Nat.le_refl _) (.bool true));have O1:(wr.setCell ⟨w.heap.size,(y / 8).toNat,none⟩ (.bool true)).ownsRow (w.heap.size+1) 98 3 u5 (nl zs m).length (mis (nl zs m)):=ownsRow_setCell_below I.o.1 (by simp only;omega) _;have hle:=zyd zs m
     have FR:=zaa (fun k (_:k < 42)=>show (if k=(y / 8).toNat then Value.bool true else Value.bool (zhk zs m k))=Value.bool (zhk zs (m+1) k) by
      rw[SU.o]
      by_cases e:k=(y / 8).toNat
      ·rw[if_pos e,e,yt.o];simp
      ·rw[if_neg e]
       have:(y / 8 == (k:Int))=false:=by rw[beq_eq_false_iff_ne];omega
       rw[this,Bool.or_false])
     obtain ⟨wb,hwb⟩:∃ wb:World,wb=wr.setCell ⟨w.heap.size,(y / 8).toNat,none⟩ (.bool true):=⟨_,rfl⟩
     have hzb:wb.heap.size=wr.heap.size:=by rw[hwb];simp[World.setCell]
     have O2:Hid ((wb.alloc (.cells #[.int .i64 2,.int .i64 y,.int .i64 0] 98)).ownsRow (w.heap.size+1) 98 3 u5 (nl zs m).length (mis (nl zs m))):=by rw[hwb];exact O1.alloc _
     have HRD:Hid (Rd (wb.alloc (.cells #[.int .i64 2,.int .i64 y,.int .i64 0] 98)) 3 (.slice (some ⟨wr.heap.size,0,none⟩) 1 1) 1 (Mi.cells ⟨2,y,0⟩)):=by rw[← hzb];exact zht wb 2 y 0
     have BB:Hid (Below w.heap.size w wb):=by rw[hwb];exact B2.o
     have FF:Hid (wb.rowIs w.heap.size 332 42 (fun k=>.bool (zhk zs (m+1) k))):=by rw[hwb];exact F.o.congr FR.o
     clear hk O1 B2 F FR;go_wp2_with (at_builtin;rw[← hwb];refine zag _ rfl (.tmp 32) (.tmp 35) 35 rfl (w.heap.size+1) 98 (.agg #[.int .i64 0,.int .i64 0,.int .i64 0]) 3 24 Tryz.underlying35 zbo rfl (by decide) _ _ _ rfl O2.o _ 1 _ rfl HRD.o (zgi _) (by simp[maxLen];omega) (by omega) (by simp;omega) ?_);intro vN wN hownN hgrN;rw[← hwb] at hgrN
     have hl:=fun q hq=>(O2.o.lt q hq).1
     have hzN:=hgrN.size;simp only[World.size_alloc] at hzN
     have G:Hid (wN.ownsRow (w.heap.size+1) 98 3 vN (nl zs (m+1)).length (mis (nl zs (m+1)))∧Below w.heap.size w wN∧wN.rowIs w.heap.size 332 42 (fun k=>.bool (zhk zs (m+1) k))):=by
      refine ⟨?_,(BB.o.alloc (by omega) (.cells #[.int .i64 2,.int .i64 y,.int .i64 0] 98)).grown hgrN (by simp;omega) (fun q hq=>by have:=hl q hq;omega),?_⟩
      ·rw[E.o,zni,List.length_append];exact hownN
      ·obtain ⟨cs,hh,h1,h2⟩:=FF.o.alloc (.cells #[.int .i64 2,.int .i64 y,.int .i64 0] 98);exact ⟨cs,(hgrN.block w.heap.size (by simp;omega) (fun e=>by have:=hl _ e.symm;omega)).trans hh,h1,h2⟩
     clear hownN hgrN hl;go_wp2
     go_roundw
     case rel=>exact ⟨m+1,by omega,by go_num,G,by omega⟩
     case measure=>simp[intOf];omega
    ·rw[KN.o,hk] at g1;have E:=zaa (NX.o.trans (by rw[hk];rfl):nl zs (m+1)=nl zs m);have HK:=zaa hk;clear hk;go_wp2
     go_roundw
     case rel =>
      refine ⟨m+1,by omega,by go_num,⟨by rw[E.o];exact I.o.1,I.o.2.1,I.o.2.2.congr (fun k hk=>?_)⟩,hz⟩
      show Value.bool (zhk zs m k)=Value.bool (zhk zs (m+1) k)
      rw[SU.o]
      by_cases e:y / 8=(k:Int)
      ·have:zhk zs m k=true:=by rw[show k=(y / 8).toNat by omega,KN.o];exact HK.o
       rw[this];rfl
      ·rw[show (y / 8 == (k:Int))=false by rw[beq_eq_false_iff_ne];exact e,Bool.or_false]
     case measure=>simp[intOf];omega
   ·obtain rfl:m=zs.length:=by omega
    have E:=zaa (show zbf zs=nl zs zs.length ++ [⟨3,0,0⟩] from rfl);have O2:=zaa (I.o.1.alloc (.cells #[.int .i64 3,.int .i64 0,.int .i64 0] 98));have HRD:=zaa (zht wr 3 0 0);have hle:=zyd zs zs.length;go_wp2_with (at_builtin;refine zag _ rfl (.tmp 38) (.tmp 40) 35 rfl (w.heap.size+1) 98 (.agg #[.int .i64 0,.int .i64 0,.int .i64 0]) 3 24 Tryz.underlying35 zbo rfl (by decide) _ _ _ rfl O2.o _ 1 _ rfl HRD.o (zgi _) (by simp[maxLen];omega) (by omega) (by simp;omega) ?_);intro vN wN hownN hgrN
    have hl:=fun q hq=>(O2.o.lt q hq).1
    have G:Hid (wN.ownsRow (w.heap.size+1) 98 3 vN (zbf zs).length (mis (zbf zs))∧Below w.heap.size w wN):=by
     refine ⟨?_,(I.o.2.1.alloc (by omega) (.cells #[.int .i64 3,.int .i64 0,.int .i64 0] 98)).grown hgrN (by simp;omega) (fun q hq=>by have:=hl q hq;omega)⟩;rw[E.o,zni,List.length_append];exact hownN
    clear hownN hgrN hl;obtain ⟨aL,cL,hvL⟩:=RdM.form (zad G.o.1).rd rfl;subst hvL;go_wp2;go_ret2;exact ⟨_,rfl,(zad G.o.1).wide (by omega) (Nat.le_refl _),G.o.2⟩
def upB (s:Se):Bool:=decide ((48≤s.at_∧s.at_ < 336)∧0≤s.val∧s.val < 1099511627776)
def yagn (ps:List Se):Bool:=decide (∀ k (h:k < ps.length),upB ps[k]=true)
theorem yamq {ps:List Se} (h:∀ k (h:k < ps.length),upB ps[k]=true):yagn ps=true:=decide_eq_true h
theorem yagk {ps:List Se} {k:Nat} (hk:k < ps.length) (h:upB ps[k]=false):yagn ps=false:=decide_eq_false (fun x=>by have:=x k hk;rw[h] at this;cases this)
theorem yaal (us:List Se):yagn us=upsB us:=by
 unfold yagn upsB;rw[decide_eq_decide];exact ⟨fun h k hk=>of_decide_eq_true (h k hk),fun h k hk=>decide_eq_true (h k hk)⟩
theorem zme (s:Se) (w:World):Calls Tryz.prog 189 #[.agg #[.int .i64 s.at_,.int .i64 s.val]] w fun e w'=>e=.returned (.bool (upB s))∧Below w.heap.size w w':=by
 obtain ⟨a,x⟩:=s;simp only;have hb0:Below w.heap.size w (w.alloc (.cells #[.int .i64 a,.int .i64 x] 180)):=(Below.refl _ _).alloc (Nat.le_refl _) _
 by_cases c1:48≤a
 case neg =>
  have E:=zaa (show upB ⟨a,x⟩=false from decide_eq_false (fun h=>c1 h.1.1));go_enter Tryz.func189,Tryz.ntmps189;go_wp2;go_ret;exact ⟨zaf E.o.symm,hb0⟩
 by_cases c2:zbn a=true
 case neg =>
  have c2':zbn a=false:=by simpa using c2
  have E:=zaa (show upB ⟨a,x⟩=false from decide_eq_false (fun h=>c2 (decide_eq_true ⟨by omega,h.1.2⟩)));have C2:=zaa c2';clear c2 c2';go_enter Tryz.func189,Tryz.ntmps189;go_wp2_with (go_at_call 261;refine (zcf _ _).mono ?_;rw[C2.o];rintro e w' ⟨rfl,rfl⟩);go_ret;exact ⟨zaf E.o.symm,hb0⟩
 have E:=zaa (show upB ⟨a,x⟩=zbb x by
  unfold upB zbb;rw[decide_eq_decide];have:=zgs c2;simp only
  omega)
 have C2:=zaa c2;clear c2;go_enter Tryz.func189,Tryz.ntmps189;go_wp2_with (first | (go_at_call 261;refine (zcf _ _).mono ?_;rw[C2.o];rintro e w' ⟨rfl,rfl⟩) | (go_at_call 156;refine (zdo _ _).mono ?_;rintro e w' ⟨rfl,rfl⟩));go_ret;exact ⟨zaf E.o.symm,hb0⟩
theorem zhl (v:Value) (ps:List Se) (w:World) (h:RdE w v ps) (hn:ps.length≤1048576) :
  Calls Tryz.prog 188 #[v,.func (.func 189) #[] #[]] w fun e w'=>e=.returned (.bool (yagn ps))∧Below w.heap.size w w':=by
 obtain ⟨aP,cP,rfl,_,hcP⟩:=h.shape;clear h;go_enter Tryz.func188,Tryz.ntmps188;go_wp2
 go_loopw [6,9] (fun _ i wr=>∃ k:Nat,k≤ps.length∧i=.int .i64 k∧Hid (∀ j (h:j < ps.length),j < k→upB ps[j]=true)∧Below w.heap.size w wr) (fun _ i _=>ps.length - (intOf i).toNat)
 case atStart=>exact ⟨0,by omega,rfl,fun j h a=>absurd a (by omega),Below.refl _ _⟩
 case round =>
  obtain ⟨m,hm,rfl,H,hbw⟩:=hrel;have hz:=hbw.size
  by_cases hlt2:m < ps.length
  ·obtain ⟨b2,o2,rfl,hbl2,hcell2⟩:=hcP (by omega);obtain ⟨d0,d1⟩:=hcell2 m hlt2;have e0:=(hbw.cell (p:=⟨b2,o2+m*2,none⟩) hbl2).trans d0;have e1:=(hbw.cell (p:=⟨b2,o2+m*2+1,none⟩) hbl2).trans d1;have hb1:=zaa (hbw.alloc hz (.cells #[.int .i64 ps[m].at_,.int .i64 ps[m].val] 180));clear d0 d1 hcell2 hcP
   by_cases q:upB ps[m]=true
   ·have Q:=zaa q;clear q;go_wp2_with (go_at_call 189;refine (zme ps[m] _).mono ?_;rw[Q.o];rintro e w' ⟨rfl,hw'⟩);have hw2:=hb1.o.trans (hw'.mono (by simp;omega));clear hb1 hw'
    go_roundw
    case rel =>
     refine ⟨m+1,by omega,by go_num,fun j h a=>?_,hw2⟩
     by_cases e:j=m
     ·subst e;exact Q.o
     ·exact H.o j h (by omega)
    case measure=>simp[intOf];omega
   ·have Q:=zaa (show upB ps[m]=false by simpa using q);have E:=zaa (yagk hlt2 Q.o);clear q;go_wp2_with (go_at_call 189;refine (zme ps[m] _).mono ?_;rw[Q.o];rintro e w' ⟨rfl,hw'⟩);have hw2:=hb1.o.trans (hw'.mono (by simp;omega));go_ret;exact ⟨zaf E.o.symm,hw2⟩
  ·have E:=zaa (yamq (fun j h=>H.o j h (by omega)));go_wp2;go_ret;exact ⟨zaf E.o.symm,hbw⟩
theorem zmy (i:Nat) (w:World) (hi:i≤1048576):Calls Tryz.prog 301 #[.int .i64 (i:Int)] w fun e w'=>e=.returned (.int .i64 (9+2*(i:Int)))∧w'=w:=by
 go_enter Tryz.func301,Tryz.ntmps301;go_wp2;go_ret;exact ⟨rfl,rfl⟩
theorem zst (i:Nat) (a x:Int) (w:World) (hi:i≤1048576):Calls Tryz.prog 263 #[.int .i64 (i:Int),.agg #[.int .i64 a,.int .i64 x]] w fun e w'=>∃ v',e=.returned v'∧RdM w' v' [⟨1,9+2*(i:Int),a⟩,⟨1,9+2*(i:Int)+1,x⟩]∧Below w.heap.size w w':=by
 have R:=zaa (zzf (w.alloc (.cells #[.int .i64 a,.int .i64 x] 180)) 1 (9+2*(i:Int)) a 1 (9+2*(i:Int)+1) x);have B:Hid (Below w.heap.size w ((w.alloc (.cells #[.int .i64 a,.int .i64 x] 180)).alloc (.cells #[.int .i64 1,.int .i64 (9+2*(i:Int)),.int .i64 a,.int .i64 1,.int .i64 (9+2*(i:Int)+1),.int .i64 x] 98))):=((Below.refl _ _).alloc (Nat.le_refl _) _).alloc (by simp) _;go_enter Tryz.func263,Tryz.ntmps263;go_wp2_with (go_at_call 301;refine (zmy _ _ hi).mono ?_;rintro e w' ⟨rfl,rfl⟩);go_ret;exact ⟨_,rfl,by unfold RdM;simpa using R.o,B.o⟩
theorem zyf (i:Nat) (a x:Int) (w:World):Calls Tryz.prog 265 #[.int .i64 (i:Int),.agg #[.int .i64 a,.int .i64 x]] w fun e w'=>∃ v',e=.returned v'∧RdM w' v' [⟨1,a,x⟩]∧Below w.heap.size w w':=by
 have R:=zaa (zht (w.alloc (.cells #[.int .i64 a,.int .i64 x] 180)) 1 a x);have B:Hid (Below w.heap.size w ((w.alloc (.cells #[.int .i64 a,.int .i64 x] 180)).alloc (.cells #[.int .i64 1,.int .i64 a,.int .i64 x] 98))):=((Below.refl _ _).alloc (Nat.le_refl _) _).alloc (by simp) _;go_enter Tryz.func265,Tryz.ntmps265;go_wp2;go_ret;exact ⟨_,rfl,by unfold RdM;rw[zif];simpa using R.o,B.o⟩
theorem ziy (n:Int) (w:World):Calls Tryz.prog 264 #[.int .i64 n] w fun e w'=>∃ v',e=.returned v'∧RdM w' v' [⟨1,8,n⟩]∧Below w.heap.size w w':=by
 have R:=zaa (zht w 1 8 n);have B:Hid (Below w.heap.size w (w.alloc (.cells #[.int .i64 1,.int .i64 8,.int .i64 n] 98))):=(Below.refl _ _).alloc (Nat.le_refl _) _;go_enter Tryz.func264,Tryz.ntmps264;go_wp2;go_ret;exact ⟨_,rfl,by unfold RdM;rw[zif];simpa using R.o,B.o⟩
theorem World.ownsRow.below {w w':World} {base:Nat} {e:TypeId} {size:Nat} {v:Value} {n:Nat} {xs:List Value} (h:w.ownsRow base e size v n xs) (hb:Below w.heap.size w w'):w'.ownsRow base e size v n xs:=by
 obtain ⟨hl,h⟩:=h;refine ⟨hl,?_⟩
 rcases h with h | ⟨g,cap,cur,h1,h2,h3,h4⟩
 ·exact .inl h
 ·exact .inr ⟨g,cap,cur,h1,h2,(hb.block g (Array.getElem?_eq_some_iff.1 h3).1).trans h3,h4⟩
theorem yadi (v:Value) (us:List Se) (w:World) (h:RdE w v us) (hn:us.length≤64) :
  Calls Tryz.prog 262 #[v,.func (.func 263) #[] #[]] w fun e w'=>∃ v',e=.returned v'∧Row w' 98 3 w.heap.size w'.heap.size v' (jlM us us.length).length (mis (jlM us us.length))∧Below w.heap.size w w':=by
 obtain ⟨aU,cU,rfl,_,hcU⟩:=h.shape;have HU:=zaa hcU;clear h hcU;go_enter Tryz.func262,Tryz.ntmps262;go_wp2
 go_loopw [5,6,7,10] (fun vL _ _ i wr=>∃ m:Nat,m≤us.length∧i=.int .i64 m∧Hid (wr.ownsRow w.heap.size 98 3 vL (jlM us m).length (mis (jlM us m))∧Below w.heap.size w wr)∧w.heap.size≤wr.heap.size) (fun _ _ _ i _=>us.length - (intOf i).toNat)
 case atStart=>exact ⟨0,by omega,rfl,⟨World.ownsRow_nil _ _ _ _,Below.refl _ _⟩,Nat.le_refl _⟩
 case round =>
  obtain ⟨m,hm,rfl,I,hz⟩:=hrel
  by_cases hlt:m < us.length
  ·obtain ⟨b,o,rfl,hbl,hcell⟩:=HU.o (by omega);obtain ⟨d0,d1⟩:=hcell m hlt;have e0:=(I.o.2.cell (p:=⟨b,o+m*2,none⟩) hbl).trans d0;have e1:=(I.o.2.cell (p:=⟨b,o+m*2+1,none⟩) hbl).trans d1
   have m0:(0:Int)≤(m:Int):=by omega
   have m1:(m:Int) < (us.length:Int):=by omega
   have NX:=zaa (yaaz us m hlt);have hle:=zxx us m;clear d0 d1 hcell;generalize us[m].at_=a at *;generalize us[m].val=x at *
   obtain ⟨wb,hwb⟩:∃ wb:World,wb=wr.alloc (.cells #[.int .i64 a,.int .i64 x] 180):=⟨_,rfl⟩
   have BB:Hid (Below wr.heap.size wr wb):=by rw[hwb];exact (Below.refl _ _).alloc (Nat.le_refl _) _
   have hzb:wr.heap.size≤wb.heap.size:=BB.o.size
   have OB:Hid (wb.ownsRow w.heap.size 98 3 u5 (jlM us m).length (mis (jlM us m))):=by rw[hwb];exact I.o.1.alloc _
   go_wp2_with (first
    | (go_at_call 263;rw[← hwb];refine (zst m a x wb (by omega)).mono ?_;rintro e w1 ⟨v1,rfl,hr1,hb1⟩;have O1:=zaa (World.ownsRow.below OB.o hb1);have R1:=zaa hr1;have B1:=zaa hb1;have hz1:wb.heap.size≤w1.heap.size:=hb1.size;obtain ⟨a1,c1,rfl,-,-⟩:=hr1.shape;clear hr1 hb1)
    | (at_builtin;refine zag _ rfl (.tmp 15) (.tmp 19) 35 rfl w.heap.size 98 (.agg #[.int .i64 0,.int .i64 0,.int .i64 0]) 3 24 Tryz.underlying35 zbo rfl (by decide) _ _ _ rfl O1.o _ 2 _ rfl R1.o (zcl _) (by simp[maxLen];omega) (by omega) (by omega) ?_))
   intro vN wN hownN hgrN
   have hl:=fun q hq=>(O1.o.lt q hq).1
   have hzN:=hgrN.size
   have G:Hid (wN.ownsRow w.heap.size 98 3 vN (jlM us (m+1)).length (mis (jlM us (m+1)))∧Below w.heap.size w wN):=by
    refine ⟨?_,((I.o.2.trans (BB.o.mono hz)).trans (B1.o.mono (by omega))).grown hgrN (by omega) (fun q hq=>hl q hq)⟩;rw[NX.o,zgh,List.length_append];exact hownN
   clear hownN hgrN hl;go_wp2
   go_roundw
   case rel=>exact ⟨m+1,by omega,by go_num,G,by omega⟩
   case measure=>simp[intOf];omega
  ·obtain rfl:m=us.length:=by omega
   obtain ⟨aL,cL,hvL⟩:=RdM.form (zad I.o.1).rd rfl;subst hvL;go_wp2;go_ret;exact ⟨_,rfl,zad I.o.1,I.o.2⟩
theorem yadl (v:Value) (us:List Se) (w:World) (h:RdE w v us) (hn:us.length≤64) :
  Calls Tryz.prog 262 #[v,.func (.func 265) #[] #[]] w fun e w'=>∃ v',e=.returned v'∧Row w' 98 3 w.heap.size w'.heap.size v' (apM us us.length).length (mis (apM us us.length))∧Below w.heap.size w w':=by
 obtain ⟨aU,cU,rfl,_,hcU⟩:=h.shape;have HU:=zaa hcU;clear h hcU;go_enter Tryz.func262,Tryz.ntmps262;go_wp2
 go_loopw [5,6,7,10] (fun vL _ _ i wr=>∃ m:Nat,m≤us.length∧i=.int .i64 m∧Hid (wr.ownsRow w.heap.size 98 3 vL (apM us m).length (mis (apM us m))∧Below w.heap.size w wr)∧w.heap.size≤wr.heap.size) (fun _ _ _ i _=>us.length - (intOf i).toNat)
 case atStart=>exact ⟨0,by omega,rfl,⟨World.ownsRow_nil _ _ _ _,Below.refl _ _⟩,Nat.le_refl _⟩
 case round =>
  obtain ⟨m,hm,rfl,I,hz⟩:=hrel
  by_cases hlt:m < us.length
  ·obtain ⟨b,o,rfl,hbl,hcell⟩:=HU.o (by omega);obtain ⟨d0,d1⟩:=hcell m hlt;have e0:=(I.o.2.cell (p:=⟨b,o+m*2,none⟩) hbl).trans d0;have e1:=(I.o.2.cell (p:=⟨b,o+m*2+1,none⟩) hbl).trans d1
   have m0:(0:Int)≤(m:Int):=by omega
   have m1:(m:Int) < (us.length:Int):=by omega
   have NX:=zaa (yabs us m hlt);have hle:=zxl us m;clear d0 d1 hcell;generalize us[m].at_=a at *;generalize us[m].val=x at *
   obtain ⟨wb,hwb⟩:∃ wb:World,wb=wr.alloc (.cells #[.int .i64 a,.int .i64 x] 180):=⟨_,rfl⟩
   have BB:Hid (Below wr.heap.size wr wb):=by rw[hwb];exact (Below.refl _ _).alloc (Nat.le_refl _) _
   have hzb:wr.heap.size≤wb.heap.size:=BB.o.size
   have OB:Hid (wb.ownsRow w.heap.size 98 3 u5 (apM us m).length (mis (apM us m))):=by rw[hwb];exact I.o.1.alloc _
   go_wp2_with (first
    | (go_at_call 265;rw[← hwb];refine (zyf m a x wb).mono ?_;rintro e w1 ⟨v1,rfl,hr1,hb1⟩;have O1:=zaa (World.ownsRow.below OB.o hb1);have R1:=zaa hr1;have B1:=zaa hb1;have hz1:wb.heap.size≤w1.heap.size:=hb1.size;obtain ⟨a1,c1,rfl,-,-⟩:=hr1.shape;clear hr1 hb1)
    | (at_builtin;refine zag _ rfl (.tmp 15) (.tmp 19) 35 rfl w.heap.size 98 (.agg #[.int .i64 0,.int .i64 0,.int .i64 0]) 3 24 Tryz.underlying35 zbo rfl (by decide) _ _ _ rfl O1.o _ 1 _ rfl R1.o (zcl _) (by simp[maxLen];omega) (by omega) (by omega) ?_))
   intro vN wN hownN hgrN
   have hl:=fun q hq=>(O1.o.lt q hq).1
   have hzN:=hgrN.size
   have G:Hid (wN.ownsRow w.heap.size 98 3 vN (apM us (m+1)).length (mis (apM us (m+1)))∧Below w.heap.size w wN):=by
    refine ⟨?_,((I.o.2.trans (BB.o.mono hz)).trans (B1.o.mono (by omega))).grown hgrN (by omega) (fun q hq=>hl q hq)⟩;rw[NX.o,zgh,List.length_append];exact hownN
   clear hownN hgrN hl;go_wp2
   go_roundw
   case rel=>exact ⟨m+1,by omega,by go_num,G,by omega⟩
   case measure=>simp[intOf];omega
  ·obtain rfl:m=us.length:=by omega
   obtain ⟨aL,cL,hvL⟩:=RdM.form (zad I.o.1).rd rfl;subst hvL;go_wp2;go_ret;exact ⟨_,rfl,zad I.o.1,I.o.2⟩
end Go.Proofs.YtehnphoeplmpdaaGreatDoor
