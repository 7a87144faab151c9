/- Several texts laid together: PiJ, ImX. -/
import Derived.Test.YtahiphgmhndgaaaGreatDoorZAP
import Derived.Test.YtahiphgmhndgaaaGreatDoorZAK
set_option maxRecDepth 100000
set_option maxHeartbeats 4000000
namespace Go.Proofs.YtahiphgmhndgaaaGreatDoor
open Go.RowKit
def ziw (x:Den):Den:=⟨x.dir,x.name,-1⟩
def hasD (ps:List Den) (x:Den):Bool:=ps.any fun y=>znq x.dir x.name x.child y.dir y.name y.child
def zov (ps:List Den):Bool:=decide (∀ k (h:k < ps.length),hasD (ps.take k) ps[k]=false)
theorem yasv {ps:List Den} {x:Den} {k:Nat} (hk:k < ps.length) (h:znq x.dir x.name x.child ps[k].dir ps[k].name ps[k].child=true):hasD ps x=true:=by
 unfold hasD;rw[List.any_eq_true];exact ⟨ps[k],List.getElem_mem _,h⟩
theorem yaoe {ps:List Den} {x:Den} (h:∀ j (h:j < ps.length),znq x.dir x.name x.child ps[j].dir ps[j].name ps[j].child=false):hasD ps x=false:=by
 unfold hasD;rw[List.any_eq_false];intro y hy;obtain ⟨j,hj,rfl⟩:=List.getElem_of_mem hy;rw[h j hj];decide
theorem yaov {ps:List Den} (h:∀ k (h:k < ps.length),hasD (ps.take k) ps[k]=false):zov ps=true:=decide_eq_true h
theorem yaib {ps:List Den} {k:Nat} (hk:k < ps.length) (h:hasD (ps.take k) ps[k]=true):zov ps=false:=decide_eq_false (fun x=>by have:=x k hk;rw[h] at this;cases this)
theorem RdD.take {w:World} {ao:Option Addr} {c:Nat} {ps:List Den} {m:Nat} (h:RdD w (.slice ao ps.length c) ps) (hm:m≤ps.length):RdD w (.slice ao m c) (ps.take m):=by
 have:=Rd.take h hm;unfold RdD
 have e:(ps.take m).length=m:=by rw[List.length_take];omega
 have e2:zhh (ps.take m)=(zhh ps).take (m*3):=by
  have hl:=yacp (ps.take m)
  have e3:zhh ps=zhh (ps.take m) ++ zhh (ps.drop m):=by
   unfold zhh;rw[← List.flatMap_append,List.take_append_drop]
  rw[e3];exact (List.take_left' (by rw[hl,e])).symm
 rw[e,e2];exact this
theorem below_drewN {B:Nat} {a w:World} (h:Below B a w) (n:Nat):Below B a (w.drewN n):=by
 induction n with
 | zero=>exact h
 | succ n ih=>exact ⟨ih.os,ih.tape,ih.output,ih.size,ih.block⟩
theorem zwd (v:Value) (ps:List Den) (x:Den) (w:World) (h:RdD w v ps) (hn:ps.length≤1048576) :
  Calls Tryz.prog 219 #[v,x.v] w fun e w'=>∃ r:Int,e=.returned (.int .i64 r)∧(decide (0≤r)=hasD ps x)∧Below w.heap.size w w':=by
 obtain ⟨aZ,cZ,rfl,_,hcZ⟩:=h.shape;have HZ:=zaa hcZ;have BW:=zaa ((Below.refl w.heap.size w).alloc (Nat.le_refl _) (.cells #[.int .i64 x.dir,.string x.name,.int .i64 x.child] 189))
 have CB:Hid (∀ w',Below (w.alloc (.cells #[.int .i64 x.dir,.string x.name,.int .i64 x.child] 189)).heap.size (w.alloc (.cells #[.int .i64 x.dir,.string x.name,.int .i64 x.child] 189)) w'→w'.cell? ⟨w.heap.size,0,none⟩=some (.int .i64 x.dir)∧w'.cell? ⟨w.heap.size,1,none⟩=some (.string x.name)∧w'.cell? ⟨w.heap.size,2,none⟩=some (.int .i64 x.child)):=fun w' hb=>zas ((hb.block _ (by simp)).trans (zag rfl))
 have hz:w.heap.size≤(w.alloc (.cells #[.int .i64 x.dir,.string x.name,.int .i64 x.child] 189)).heap.size:=BW.o.size
 obtain ⟨W,hW⟩:∃ W,W=w.alloc (.cells #[.int .i64 x.dir,.string x.name,.int .i64 x.child] 189):=⟨_,rfl⟩
 rw[← hW] at BW CB hz;rw[show x.v=.agg #[.int .i64 x.dir,.string x.name,.int .i64 x.child] from rfl];clear h hcZ;go_enter Tryz.func219,Tryz.ntmps219;go_wp2;rw[← hW];clear hW
 go_loopw [5,8] (fun _ i wr=>∃ k:Nat,k≤ps.length∧i=.int .i64 k∧Hid (Below W.heap.size W wr∧∀ j (h:j < ps.length),j < k→znq x.dir x.name x.child ps[j].dir ps[j].name ps[j].child=false)) (fun _ i _=>ps.length - (intOf i).toNat)
 case atStart=>exact ⟨0,by omega,rfl,Below.refl _ _,fun j h a=>absurd a (by omega)⟩
 case round =>
  obtain ⟨k,hk,rfl,H⟩:=hrel
  by_cases hlt:k < ps.length
  ·obtain ⟨b,o,rfl,hbl,hcell⟩:=HZ.o (by omega);obtain ⟨x0,x1,x2⟩:=CB.o wr H.o.1;have B0:=zaa (zab BW.o H.o.1 hz);obtain ⟨a0,a1,a2⟩:=hcell k hlt;have d0:=(B0.o.cell (p:=⟨b,o+k*3,none⟩) hbl).trans a0;have d1:=(B0.o.cell (p:=⟨b,o+k*3+1,none⟩) hbl).trans a1;have d2:=(B0.o.cell (p:=⟨b,o+k*3+2,none⟩) hbl).trans a2
   have k0:(0:Int)≤(k:Int):=by omega
   have k1:(k:Int) < (ps.length:Int):=by omega
   clear hcell a0 a1 a2
   cases q:znq x.dir x.name x.child ps[k].dir ps[k].name ps[k].child with
   | true =>
    have E:=zaa (yasv hlt q);clear H;generalize ps[k]=y at *;go_wp2
    go_quiet (fail)
    go_wp2;go_ret;exact ⟨_,rfl,by rw[E.o];exact decide_eq_true (by omega),below_drewN B0.o _⟩
   | false =>
    have H':Hid (∀ j (h:j < ps.length),j < k+1→znq x.dir x.name x.child ps[j].dir ps[j].name ps[j].child=false):=fun j h a=>by
     by_cases e:j=k
     ·subst e;exact q
     ·exact H.o.2 j h (by omega)
    have H1:=zaa H.o.1;clear H;generalize ps[k]=y at d0 d1 d2 q;go_wp2
    go_quiet (fail)
    go_wp2
    go_roundw
    case rel=>exact ⟨k+1,by omega,by go_num,below_drewN H1.o _,H'.o⟩
    case measure=>simp[intOf];omega
  ·have E:=zaa (yaoe (fun j h=>H.o.2 j h (by omega)));have B0:=zaa (zab BW.o H.o.1 hz);clear H;go_wp2;go_ret;exact ⟨_,rfl,by rw[E.o];rfl,B0.o⟩
theorem zib (v:Value) (ps:List Den) (x:Den) (w:World) (h:RdD w v ps) (hn:ps.length≤1048576) :
  Calls Tryz.prog 213 #[v,x.v] w fun e w'=>e=.returned (.bool (hasD ps x))∧Below w.heap.size w w':=by
 have HZ:=zaa h;obtain ⟨aZ,cZ,rfl,_,_⟩:=h.shape;have BW:=zaa ((Below.refl w.heap.size w).alloc (Nat.le_refl _) (.cells #[.int .i64 x.dir,.string x.name,.int .i64 x.child] 189));have LI:=zaa (fun w1 h=>zwd (.slice aZ ps.length cZ) ps x w1 h hn);obtain ⟨x0,x1,x2⟩:=zas (zag (w:=w) (o:=.cells #[.int .i64 x.dir,.string x.name,.int .i64 x.child] 189) rfl);rw[show x.v=.agg #[.int .i64 x.dir,.string x.name,.int .i64 x.child] from rfl];clear h;go_enter Tryz.func213,Tryz.ntmps213;go_wp2_with fail;refine (LI.o _ (Rd.below HZ.o BW.o)).mono ?_;rintro e w1 ⟨r,rfl,hr,hb⟩;have R:=zaa hr;have B1:=zaa (zab BW.o hb BW.o.size);clear hr hb x0 x1 x2;go_wp2;go_ret;exact ⟨zae R.o,B1.o⟩
theorem zni (v:Value) (ps:List Den) (w:World) (h:RdD w v ps) (hn:ps.length≤1048576) :
  Calls Tryz.prog 205 #[v] w fun e w'=>e=.returned (.bool (zov ps))∧Below w.heap.size w w':=by
 have HR:=zaa h;obtain ⟨aZ,cZ,rfl,hcap,hcZ⟩:=h.shape;have HZ:=zaa hcZ;clear h hcZ;go_enter Tryz.func205,Tryz.ntmps205;go_wp2
 go_loopw [3,4,7] (fun _ _ i wr=>∃ k:Nat,k≤ps.length∧i=.int .i64 k∧Hid (Below w.heap.size w wr∧∀ j (h:j < ps.length),j < k→hasD (ps.take j) ps[j]=false)) (fun _ _ i _=>ps.length - (intOf i).toNat)
 case atStart=>exact ⟨0,by omega,rfl,Below.refl _ _,fun j h a=>absurd a (by omega)⟩
 case round =>
  obtain ⟨k,hk,rfl,H⟩:=hrel
  by_cases hlt:k < ps.length
  ·obtain ⟨b,o,rfl,hbl,hcell⟩:=HZ.o (by omega);obtain ⟨a0,a1,a2⟩:=hcell k hlt;have d0:=(H.o.1.cell (p:=⟨b,o+k*3,none⟩) hbl).trans a0;have d1:=(H.o.1.cell (p:=⟨b,o+k*3+1,none⟩) hbl).trans a1;have d2:=(H.o.1.cell (p:=⟨b,o+k*3+2,none⟩) hbl).trans a2
   have k0:(0:Int)≤(k:Int):=by omega
   have k1:(k:Int) < (ps.length:Int):=by omega
   have k2:(k:Int)≤(cZ:Int):=by omega
   have RT:=zaa (RdD.take HR.o hk);have LT:=zaa (show (ps.take k).length≤1048576 by rw[List.length_take];omega);have hz:w.heap.size≤wr.heap.size:=H.o.1.size;have H1:=zaa H.o.1;clear hcell a0 a1 a2
   obtain ⟨wb,hwb⟩:∃ wb:World,wb=wr.alloc (.cells #[.int .i64 ps[k].dir,.string ps[k].name,.int .i64 ps[k].child] 189):=⟨_,rfl⟩
   have B2:Hid (Below w.heap.size w wb):=by rw[hwb];exact H1.o.alloc hz _
   have SK:Hid (∀ w',Below wb.heap.size wb w'→w'.cell? ⟨wr.heap.size,0,none⟩=some (.int .i64 ps[k].dir)∧w'.cell? ⟨wr.heap.size,1,none⟩=some (.string ps[k].name)∧w'.cell? ⟨wr.heap.size,2,none⟩=some (.int .i64 ps[k].child)):=fun w' hb=>zas ((hb.block _ (by rw[hwb];simp)).trans (by rw[hwb];exact zag rfl))
   cases q:hasD (ps.take k) ps[k] with
   | false =>
    have H':Hid (∀ j (h:j < ps.length),j < k+1→hasD (ps.take j) ps[j]=false):=fun j h a=>by
     by_cases e:j=k
     ·subst e;exact q
     ·exact H.o.2 j h (by omega)
    have Q:=zaa q;clear q H;generalize ps[k]=x at d0 d1 d2 Q hwb SK;go_wp2_with fail;rw[← hwb];clear hwb
    go_region_held3 (fun w'=>w'.cell? ⟨wr.heap.size,0,none⟩=some (.int .i64 x.dir)∧w'.cell? ⟨wr.heap.size,1,none⟩=some (.string x.name)∧w'.cell? ⟨wr.heap.size,2,none⟩=some (.int .i64 x.child))
     (exact SK.o _ (by repeat (first | exact BF.o | exact Below.refl _ _ | refine Below.drew ?_)))
     (first
      | (go_at_call 213;refine (zib _ (ps.take k) x _ (Rd.below RT.o (zab B2.o (by repeat (first | exact Below.refl _ _ | refine Below.drew ?_)) B2.o.size)) LT.o).mono ?_;rw[Q.o];rintro e w1 ⟨rfl,hb1⟩;have BF:Hid (Below wb.heap.size wb w1):=(by first | exact hb1 | exact zab (by repeat (first | exact Below.refl _ _ | refine Below.drew ?_)) hb1 (Nat.le_refl _))))
    all_goals
     have B3:=zaa (zab B2.o BF.o B2.o.size);clear hb1 BF SK d0 d1 d2;go_wp2
     go_roundw
     case rel=>exact ⟨k+1,by omega,by go_num,(by repeat (first | exact B3.o | refine Below.drew ?_)),H'.o⟩
     case measure=>simp[intOf];omega
   | true =>
    have E:=zaa (yaib hlt q);have Q:=zaa q;clear q H;generalize ps[k]=x at d0 d1 d2 Q hwb SK;go_wp2_with fail;rw[← hwb];clear hwb
    go_region_held3 (fun w'=>w'.cell? ⟨wr.heap.size,0,none⟩=some (.int .i64 x.dir)∧w'.cell? ⟨wr.heap.size,1,none⟩=some (.string x.name)∧w'.cell? ⟨wr.heap.size,2,none⟩=some (.int .i64 x.child))
     (exact SK.o _ (by repeat (first | exact BF.o | exact Below.refl _ _ | refine Below.drew ?_)))
     (first
      | (go_at_call 213;refine (zib _ (ps.take k) x _ (Rd.below RT.o (zab B2.o (by repeat (first | exact Below.refl _ _ | refine Below.drew ?_)) B2.o.size)) LT.o).mono ?_;rw[Q.o];rintro e w1 ⟨rfl,hb1⟩;have BF:Hid (Below wb.heap.size wb w1):=(by first | exact hb1 | exact zab (by repeat (first | exact Below.refl _ _ | refine Below.drew ?_)) hb1 (Nat.le_refl _))))
    all_goals
     have B3:=zaa (zab B2.o BF.o B2.o.size);clear hb1 BF SK d0 d1 d2;go_wp2;go_ret;exact ⟨zae E.o.symm,(by repeat (first | exact B3.o | refine Below.drew ?_))⟩
  ·have E:=zaa (yaov (fun j h=>H.o.2 j h (by omega)));have H1:=zaa H.o.1;clear H;go_wp2;go_ret;exact ⟨zae E.o.symm,H1.o⟩
def zco (ws:List Ino) (z:Int):Int:=(ws.getD z.toNat ⟨0,0,0,0,0,0,0,0,0,0,0⟩).kind
theorem zes {ws:List Ino} {i:Nat} (h:i < ws.length):zco ws (i:Int)=ws[i].kind:=by
 unfold zco;rw[Int.toNat_natCast,List.getD_eq_getElem?_getD,List.getElem?_eq_getElem h];rfl
def zff (y x:Den):Bool:=decide (0≤y.child) && (y.dir == x.dir && y.name.toList == x.name.toList)
def zfr (ws:List Ino) (ps:List Den) (i:Nat) (x:Den):Bool:=if x.child=-1 then x.freeB else (decide (1≤x.child∧x.child≤15) && (decide (0≤x.dir∧x.dir≤15) && (nmB x.name && (!(zco ws x.child == 0) && (zco ws x.dir == 2 && (ps.take i).all fun y=>!zff y x)))))
def zks (ws:List Ino) (ps:List Den):Bool:=decide (∀ i (h:i < ps.length),zfr ws ps i ps[i]=true)
def fitB (ws:List Ino) (x:Den):Bool:=zco ws x.dir == 2 && !(zco ws x.child == 0)
def zqw (ws:List Ino) (ts:List Den):Bool:=decide (∀ k (h:k < ts.length),fitB ws ts[k]=true)
def okDs (ps:List Den):Bool:=decide (∀ k (h:k < ps.length),ps[k].okB=true)
theorem zua {x:Den} (h:x.okB=true):x.freeB=true↔x.child=-1:=by
 constructor
 ·intro hf;unfold Den.freeB at hf;simp only[Bool.and_eq_true,beq_iff_eq] at hf;exact hf.2.2
 ·intro hc;unfold Den.okB at h;simp only[Bool.or_eq_true,Bool.and_eq_true,decide_eq_true_eq] at h
  rcases h with h | h
  ·exact h
  ·omega
theorem znz {x:Den} (h:x.okB=true) (hf:¬ x.child=-1):(1≤x.child∧x.child≤15)∧(0≤x.dir∧x.dir≤15)∧nmB x.name=true:=by
 unfold Den.okB at h;simp only[Bool.or_eq_true,Bool.and_eq_true,decide_eq_true_eq] at h
 rcases h with h | h
 ·unfold Den.freeB at h;simp only[Bool.and_eq_true,beq_iff_eq] at h;exact absurd h.2.2 hf
 ·exact h
theorem yatc {ws:List Ino} {ps:List Den} (h:zks ws ps=true):okDs ps=true:=by
 have h:=of_decide_eq_true h
 refine decide_eq_true fun k hk=>?_
 have:=h k hk;unfold zfr at this;unfold Den.okB
 split at this
 ·rw[this];rfl
 ·simp only[Bool.and_eq_true] at this;rw[this.1,this.2.1,this.2.2.1];simp
def yawe (y x:Den):Prop:=y.dir=x.dir∧y.name.toList=x.name.toList
theorem yakm (l:List Den):zov (l.map ziw)=true↔l.Pairwise fun y x=>¬ yawe y x:=by
 unfold zov;rw[decide_eq_true_eq,List.pairwise_iff_getElem];constructor
 ·intro h i j hi hj hij hs;have:=h j (by simpa using hj);rw[← List.map_take] at this;unfold hasD at this;rw[List.any_eq_false] at this;refine this (ziw l[i]) (List.mem_map.2 ⟨l[i],?_,rfl⟩) ?_
  ·exact List.mem_take_iff_getElem.2 ⟨i,Nat.lt_min.2 ⟨hij,hi⟩,rfl⟩
  ·simp only[List.getElem_map];unfold znq ziw;simp[hs.1,hs.2]
 ·intro h k hk;rw[← List.map_take];unfold hasD;rw[List.any_eq_false];intro y hy he;obtain ⟨z,hz,rfl⟩:=List.mem_map.1 hy;obtain ⟨i,hi,rfl⟩:=List.mem_take_iff_getElem.1 hz
  have hk':k < l.length:=by simpa using hk
  simp only[Nat.lt_min] at hi;refine h i k hi.2 hk' hi.1 ?_;simp only[List.getElem_map] at he;unfold znq ziw at he;simp only[Bool.and_eq_true,beq_iff_eq] at he;exact ⟨he.1.symm,he.2.1.symm⟩
theorem yass {ws:List Ino} {ps:List Den} (h:okDs ps=true):zks ws ps=(zqw ws (zap ps) && zov ((zap ps).map ziw)):=by
 have h:=of_decide_eq_true h;rw[Bool.eq_iff_iff,Bool.and_eq_true,yakm];unfold zap;rw[List.pairwise_filter,List.pairwise_iff_getElem];unfold zks zqw;rw[decide_eq_true_eq,decide_eq_true_eq]
 have hfree:∀ k (hk:k < ps.length),(!ps[k].freeB)=true↔¬ ps[k].child=-1:=fun k hk=>by
  rw[← zua (h k hk)];simp
 constructor
 ·intro hE;refine ⟨fun k hk=>?_,fun i j hi hj hij fi fj hs=>?_⟩
  ·have hm:=List.getElem_mem hk;obtain ⟨hm,hf⟩:=List.mem_filter.1 hm;obtain ⟨i,hi,e⟩:=List.getElem_of_mem hm;rw[← e] at hf ⊢;have:=hE i hi;unfold zfr at this;rw[if_neg ((hfree i hi).1 hf)] at this;simp only[Bool.and_eq_true] at this;unfold fitB;rw[this.2.2.2.1,this.2.2.2.2.1];rfl
  ·have:=hE j hj;unfold zfr at this;rw[if_neg ((hfree j hj).1 fj)] at this;simp only[Bool.and_eq_true,List.all_eq_true] at this;have:=this.2.2.2.2.2 ps[i] (List.mem_take_iff_getElem.2 ⟨i,Nat.lt_min.2 ⟨hij,hi⟩,rfl⟩);unfold zff at this;have c:=znz (h i hi) ((hfree i hi).1 fi);simp[hs.1,hs.2] at this;omega
 ·rintro ⟨hF,hP⟩ i hi;unfold zfr
  split
  ·rename_i hc;exact (zua (h i hi)).2 hc
  ·rename_i hc;obtain ⟨a,b,c⟩:=znz (h i hi) hc;have fi:=(hfree i hi).2 hc
   have hm:ps[i]∈ps.filter fun x=>!x.freeB:=List.mem_filter.2 ⟨List.getElem_mem _,fi⟩
   obtain ⟨k,hk,e⟩:=List.getElem_of_mem hm;have:=hF k hk;rw[e] at this;unfold fitB at this;simp only[Bool.and_eq_true] at this;rw[decide_eq_true a,decide_eq_true b,c,this.1,this.2];simp only[Bool.true_and,List.all_eq_true];intro y hy;obtain ⟨j,hj,rfl⟩:=List.mem_take_iff_getElem.1 hy;simp only[Nat.lt_min] at hj;rw[Bool.not_eq_true'];unfold zff;rw[Bool.and_eq_false_iff]
   by_cases hn:ps[j].child=-1
   ·left;exact decide_eq_false (by omega)
   ·right;rw[Bool.eq_false_iff];intro he;simp only[Bool.and_eq_true,beq_iff_eq] at he;exact hP j i hj.2 hi hj.1 ((hfree j hj.2).2 hn) fi he
def zdh (l:List Int) (t:Int):List Int:=(l.filter fun e=>e % 4 == t).map fun e=>e / 4
theorem zmi (zs:List Int):zfy zs=true↔zs.Pairwise fun x y=>x≠y:=by
 unfold zfy;rw[decide_eq_true_eq,List.pairwise_iff_getElem];constructor
 ·intro h i j hi hj hij he;have:=h j hj;unfold zru at this;rw[List.contains_eq_any_beq,List.any_eq_false] at this;refine this zs[i] (List.mem_take_iff_getElem.2 ⟨i,Nat.lt_min.2 ⟨hij,hi⟩,rfl⟩) ?_;rw[beq_iff_eq];exact he.symm
 ·intro h k hk;unfold zru;rw[List.contains_eq_any_beq,List.any_eq_false];intro y hy he;obtain ⟨i,hi,rfl⟩:=List.mem_take_iff_getElem.1 hy;have hi:=Nat.lt_min.1 hi;rw[beq_iff_eq] at he;exact h i k hi.2 hk hi.1 he.symm
theorem yajt {l:List Int} (h:∀ e∈l,e % 4=1∨e % 4=2):(zfy (zdh l 1) && zfy (zdh l 2))=zfy l:=by
 rw[Bool.eq_iff_iff,Bool.and_eq_true,zmi,zmi,zmi];unfold zdh;rw[List.pairwise_map,List.pairwise_map,List.pairwise_filter,List.pairwise_filter];constructor
 ·rintro ⟨h1,h2⟩;rw[List.pairwise_iff_getElem] at *;intro i j hi hj hij he
  rcases h l[i] (List.getElem_mem _) with q | q
  ·exact h1 i j hi hj hij (by simpa using q) (by rw[← he];simpa using q) (by rw[he])
  ·exact h2 i j hi hj hij (by simpa using q) (by rw[← he];simpa using q) (by rw[he])
 ·intro hp;refine ⟨hp.imp fun {a b} hne pa pb he=>hne ?_,hp.imp fun {a b} hne pa pb he=>hne ?_⟩
  ·have:a % 4=1:=by simpa using pa
   have:b % 4=1:=by simpa using pb
   omega
  ·have:a % 4=2:=by simpa using pa
   have:b % 4=2:=by simpa using pb
   omega
theorem yait {e:Int} (h:zjk e=true) (h0:¬ e=0):0≤e∧(e % 4=1∨e % 4=2):=by
 unfold zjk znj at h;simp only[Bool.and_eq_true,decide_eq_true_eq] at h;omega
theorem yaak {ws:List Ino} (h:∀ i (h:i < ws.length),∀ z∈ws[i].map,zjk z=true):∀ e∈zbj ws,0≤e∧(e % 4=1∨e % 4=2):=by
 intro e he;unfold zbj at he;obtain ⟨x,hx,he⟩:=List.mem_flatMap.1 he;obtain ⟨i,hi,rfl⟩:=List.getElem_of_mem hx;unfold yaeo at he;obtain ⟨h1,h2⟩:=List.mem_filter.1 he;exact yait (h i hi e h1) (by simpa using h2)
def upA (ts:List Den):Nat→Int→Int
 | 0,_=>0
 | k+1,j=>if (ts.getD k ⟨0,⟨#[]⟩,0⟩).child=j then (ts.getD k ⟨0,⟨#[]⟩,0⟩).dir else upA ts k j
def zfd (f:Int→Int):Nat→Int→Int
 | 0,i=>i
 | n+1,i=>zfd f n (f i)
def lcB (ws:List Ino) (ts:List Den):Bool:=decide (∀ i (h:i < ws.length),ws[i].links=(if i=0 then 1 else 0)+(zob ts i ts.length:Int))
def dhB (ws:List Ino) (ts:List Den):Bool:=decide (∀ i (h:i < ws.length),ws[i].kind=2→zfd (upA ts ts.length) 16 (i:Int)=0)
theorem zin (f:Int→Int):∀ (a b:Nat) (i:Int),zfd f (a+b) i=zfd f b (zfd f a i)
 | 0,b,i=>by rw[Nat.zero_add];rfl
 | a+1,b,i=>by
  rw[show a+1+b=(a+b)+1 by omega];exact zin f a b (f i)
theorem zkb (f:Int→Int) (h:f 0=0):∀ n,zfd f n 0=0
 | 0=>rfl
 | n+1=>by
  show zfd f n (f 0)=0
  rw[h];exact zkb f h n
theorem yaqv:∀ (m:Nat) (f:Nat→Nat),(∀ k,k≤m→f k < m)→∃ a b,a < b∧b≤m∧f a=f b
 | 0,f,h=>absurd (h 0 (Nat.le_refl _)) (by omega)
 | m+1,f,h=>by
  by_cases q:∃ a,a≤m∧f a=f (m+1)
  ·obtain ⟨a,ha,e⟩:=q;exact ⟨a,m+1,by omega,Nat.le_refl _,e⟩
  ·have q':∀ a,a≤m→f a≠f (m+1):=fun a ha e=>q ⟨a,ha,e⟩
   obtain ⟨a,b,h1,h2,e⟩:=yaqv m (fun k=>if f (m+1) < f k then f k - 1 else f k) (fun k hk=>by
    have h1:=h k (by omega);have h2:=h (m+1) (Nat.le_refl _);have h3:=q' k hk
    show (if f (m+1) < f k then f k - 1 else f k) < m
    split <;> omega)
   refine ⟨a,b,h1,by omega,?_⟩;have e':(if f (m+1) < f a then f a - 1 else f a)=(if f (m+1) < f b then f b - 1 else f b):=e;have ha:=q' a (by omega);have hb:=q' b (by omega)
   split at e' <;> split at e' <;> omega
theorem yawc {f:Int→Int} (f0:f 0=0) (i:Int) (hr:∀ n,0≤zfd f n i∧zfd f n i≤15) (h:zfd f 16 i=0):zfd f 15 i=0:=by
 apply Classical.byContradiction;intro hn
 have hall:∀ n,n≤15→¬ zfd f n i=0:=fun n hn' e=>hn (by
  rw[show 15=n+(15 - n) by omega,zin,e,zkb f f0])
 obtain ⟨a,b,h1,h2,e⟩:=yaqv 15 (fun k=>(zfd f k i).toNat - 1) (fun k hk=>by
  have:=hr k;have:=hall k hk
  show (zfd f k i).toNat - 1 < 15
  omega)
 have e':zfd f a i=zfd f b i:=by
  have:=hr a;have:=hr b;have:=hall a (by omega);have:=hall b (by omega);have e:(zfd f a i).toNat - 1=(zfd f b i).toNat - 1:=e;omega
 have z:zfd f (a+(16 - b)) i=0:=by
  rw[zin,e',← zin,show b+(16 - b)=16 by omega,h]
 exact hall (a+(16 - b)) (by omega) z
theorem yadw {ps:List Den} {f:Int→Int} (f0:f 0=0):∀ (n:Nat) (d:Int),(∀ m,¬ zfd f m d=0→upD ps (zfd f m d)=f (zfd f m d)∧0≤f (zfd f m d))→(zgw ps (n+1) d=true↔zfd f n d=0)
 | 0,d,H=>by
  unfold zgw
  by_cases h:d=0
  ·rw[if_pos h];exact ⟨fun _=>h,fun _=>rfl⟩
  ·rw[if_neg h];constructor
   ·intro q
    split at q
    ·cases q
    ·unfold zgw at q;cases q
   ·intro q;exact absurd q h
 | n+1,d,H=>by
  unfold zgw
  by_cases h:d=0
  ·rw[if_pos h,h];exact ⟨fun _=>zkb f f0 _,fun _=>rfl⟩
  ·rw[if_neg h];obtain ⟨e1,e2⟩:=H 0 h;have e1:upD ps d=f d:=e1;have e2:0≤f d:=e2;rw[e1,if_neg (by omega)];exact yadw f0 n (f d) (fun m hm=>H (m+1) hm)
theorem zwv {ps:List Den} (i:Nat):zob (zap ps) i (zap ps).length=zob ps i ps.length:=by
 unfold zob zap;rw[List.take_length,List.take_length,List.filter_filter]
 congr 1
 apply List.filter_congr;intro x _
 cases hf:x.freeB with
 | false=>simp
 | true =>
  unfold Den.freeB at hf;simp only[Bool.and_eq_true,beq_iff_eq] at hf
  have:(x.child == (i:Int))=false:=by rw[beq_eq_false_iff_ne];omega
  simp[this]
theorem yaul:∀ (ts:List Den) (c:Int),(ts.filter fun x=>x.child == c).length=1→∃ x∈ts,x.child=c∧upD ts c=x.dir∧upA ts ts.length c=x.dir:=by
 intro ts c h;obtain ⟨x,hx⟩:=List.length_eq_one_iff.1 h
 have hm:x∈ts.filter fun x=>x.child == c:=by rw[hx];simp
 obtain ⟨h1,h2⟩:=List.mem_filter.1 hm
 have h2:x.child=c:=by simpa using h2
 have uniq:∀ y∈ts,y.child=c→y=x:=fun y hy hc=>by
  have:y∈ts.filter fun x=>x.child == c:=List.mem_filter.2 ⟨hy,by simpa using hc⟩
  rw[hx] at this;exact List.mem_singleton.1 this
 refine ⟨x,h1,h2,?_,?_⟩
 ·unfold upD
  cases hf:ts.find? fun x=>x.child == c with
  | none =>
   rw[List.find?_eq_none] at hf;exact absurd (by simpa using h2) (hf x h1)
  | some y =>
   have a:=List.mem_of_find?_eq_some hf;have b:=List.find?_some hf;rw[uniq y a (by simpa using b)];rfl
 ·have H:∀ k,k≤ts.length→(∃ j,j < k∧∃ h:j < ts.length,ts[j].child=c)→upA ts k c=x.dir:=by
   intro k
   induction k with
   | zero=>rintro _ ⟨j,hj,_⟩;omega
   | succ k ih =>
    rintro hk ⟨j,hj,hl,e⟩;unfold upA
    have hg:ts.getD k ⟨0,⟨#[]⟩,0⟩=ts[k]:=by rw[List.getD_eq_getElem?_getD,List.getElem?_eq_getElem (by omega)];rfl
    rw[hg]
    by_cases q:ts[k].child=c
    ·rw[if_pos q,uniq ts[k] (List.getElem_mem _) q]
    ·rw[if_neg q];refine ih (by omega) ⟨j,?_,hl,e⟩
     rcases Nat.lt_or_ge j k with a | a
     ·exact a
     ·have:j=k:=by omega
      subst this;exact absurd e q
  obtain ⟨j,hj,e⟩:=List.getElem_of_mem h1;exact H ts.length (Nat.le_refl _) ⟨j,hj,hj,by rw[e];exact h2⟩
theorem yase:∀ (ts:List Den) (c:Int) (k:Nat),(∀ j (h:j < ts.length),¬ ts[j].child=c)→k≤ts.length→upA ts k c=0:=by
 intro ts c k h
 induction k with
 | zero=>intro _;rfl
 | succ k ih =>
  intro hk;unfold upA
  have hg:ts.getD k ⟨0,⟨#[]⟩,0⟩=ts[k]:=by rw[List.getD_eq_getElem?_getD,List.getElem?_eq_getElem (by omega)];rfl
  rw[hg,if_neg (h k (by omega)),ih (by omega)]
theorem yamd {ps:List Den} {c:Int} (hc:0≤c):upD (zap ps) c=upD ps c:=by
 unfold upD zap;rw[List.find?_filter]
 congr 2
 congr 1
 funext x
 cases hf:x.freeB with
 | false=>simp;rw[Bool.eq_iff_iff];simp
 | true =>
  unfold Den.freeB at hf;simp only[Bool.and_eq_true,beq_iff_eq] at hf
  have:(x.child == c)=false:=by rw[beq_eq_false_iff_ne];omega
  simp[this]
theorem yapk {ws:List Ino} {ps:List Den} (hl:ws.length=16) (hd:∀ i (h:i < ws.length),ws[i].kind=2→ws[i].links=1) (hok:okDs ps=true) (hfit:zqw ws (zap ps)=true) :
  zhy ws ps=(lcB ws (zap ps) && dhB ws (zap ps)):=by
 have hok:=of_decide_eq_true hok;have hfit:=of_decide_eq_true hfit
 have hT:∀ x∈zap ps,(1≤x.child∧x.child≤15)∧(0≤x.dir∧x.dir≤15)∧zco ws x.dir=2:=fun x hx=>by
  obtain ⟨k,hk,e⟩:=List.getElem_of_mem hx;have f:=hfit k hk;rw[e] at f;unfold fitB at f;simp only[Bool.and_eq_true,beq_iff_eq] at f;obtain ⟨hm,hf⟩:=List.mem_filter.1 hx;obtain ⟨i,hi,e⟩:=List.getElem_of_mem hm;have o:=hok i hi;rw[e] at o;have c:=znz o (fun q=>by rw[(zua o).2 q] at hf;cases hf);exact ⟨c.1,c.2.1,f.1⟩
 have f0:upA (zap ps) (zap ps).length 0=0:=yase _ 0 _ (fun j h=>by have:=hT _ (List.getElem_mem h);omega) (Nat.le_refl _);rw[Bool.eq_iff_iff,Bool.and_eq_true];unfold zhy lcB dhB;rw[decide_eq_true_eq,decide_eq_true_eq,decide_eq_true_eq]
 have split:(∀ i (h:i < ws.length),zlx ps i ws[i]=true)↔(∀ i (h:i < ws.length),ws[i].links=(if i=0 then 1 else 0)+(zob (zap ps) i (zap ps).length:Int))∧∀ i (h:i < ws.length),ws[i].kind=2→zgw ps 16 i=true:=by
  constructor
  ·intro h;refine ⟨fun i hi=>?_,fun i hi hk=>?_⟩
   ·have:=h i hi;unfold zlx at this;simp only[Bool.and_eq_true,decide_eq_true_eq] at this;rw[zwv,this.1]
   ·have:=h i hi;unfold zlx at this;simp only[Bool.and_eq_true,Bool.or_eq_true,decide_eq_true_eq] at this;exact this.2.resolve_left (fun q=>q hk)
  ·rintro ⟨h1,h2⟩ i hi;unfold zlx;have:=h1 i hi;rw[zwv] at this;rw[decide_eq_true this.symm,Bool.true_and]
   by_cases hk:ws[i].kind=2
   ·rw[h2 i hi hk,Bool.or_true]
   ·rw[decide_eq_true hk,Bool.true_or]
 rw[split]
 refine and_congr_right fun hc=>?_
 have step:∀ d:Int,0≤d→d≤15→zco ws d=2→¬ d=0→upD ps d=upA (zap ps) (zap ps).length d∧(0≤upA (zap ps) (zap ps).length d∧upA (zap ps) (zap ps).length d≤15)∧zco ws (upA (zap ps) (zap ps).length d)=2:=by
  intro d h1 h2 hk hn
  obtain ⟨n,rfl⟩:∃ n:Nat,d=(n:Int):=⟨d.toNat,by omega⟩
  have hn16:n < ws.length:=by omega
  rw[zes hn16] at hk;have l1:=hd n hn16 hk;have l2:=hc n hn16;rw[l1,if_neg (by omega)] at l2
  have l3:((zap ps).filter fun x=>x.child == (n:Int)).length=1:=by
   unfold zob at l2;rw[List.take_length] at l2;omega
  obtain ⟨x,hx,_,u1,u2⟩:=yaul (zap ps) (n:Int) l3;rw[yamd (by omega)] at u1;rw[u2];have:=hT x hx;exact ⟨u1,this.2.1,this.2.2⟩
 have road:∀ i:Int,0≤i→i≤15→zco ws i=2→∀ n,(0≤zfd (upA (zap ps) (zap ps).length) n i∧zfd (upA (zap ps) (zap ps).length) n i≤15)∧zco ws (zfd (upA (zap ps) (zap ps).length) n i)=2:=by
  intro i h1 h2 hk n
  induction n generalizing i with
  | zero=>exact ⟨⟨h1,h2⟩,hk⟩
  | succ n ih =>
   show (0≤zfd _ n (upA _ _ i)∧zfd _ n (upA _ _ i)≤15)∧zco ws (zfd _ n (upA _ _ i))=2
   by_cases q:i=0
   ·rw[q,f0];rw[q] at hk;exact ih 0 (by omega) (by omega) hk
   ·obtain ⟨_,a,b⟩:=step i h1 h2 hk q;exact ih _ a.1 a.2 b
 refine forall_congr' fun i=>forall_congr' fun hi=>forall_congr' fun hk=>?_
 have hk':zco ws (i:Int)=2:=by rw[zes hi];exact hk
 have R:=road (i:Int) (by omega) (by omega) hk'
 rw[yadw f0 15 (i:Int) (fun m hm=>by
  obtain ⟨a,b⟩:=R m;obtain ⟨c,d,_⟩:=step _ a.1 a.2 b hm
  exact ⟨c,d.1⟩)]
 constructor
 ·intro h;rw[show 16=15+1 by omega,zin,h];exact zkb _ f0 1
 ·exact yawc f0 _ (fun n=>(R n).1)
end Go.Proofs.YtahiphgmhndgaaaGreatDoor
