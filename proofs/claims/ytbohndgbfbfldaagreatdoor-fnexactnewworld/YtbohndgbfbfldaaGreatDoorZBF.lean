/- Several texts laid together: ImL, PiJ. -/
import Derived.Test.YtbohndgbfbfldaaGreatDoorZBB
import Derived.Test.YtbohndgbfbfldaaGreatDoorZAJ
set_option maxRecDepth 100000
set_option maxHeartbeats 4000000
namespace Go.Proofs.YtbohndgbfbfldaaGreatDoor
open Go.RowKit
def zrz (ds:List Den) (c:Int) (k:Nat):Nat:=((ds.take k).filter fun x=>x.child == c).length
theorem zno {ds:List Den} {c:Int} {k:Nat} (h:k < ds.length):zrz ds c (k+1)=zrz ds c k+(if (ds[k].child == c)=true then 1 else 0):=by
 unfold zrz;rw[List.take_succ_eq_append_getElem h,List.filter_append,List.length_append]
 congr 1
 cases q:ds[k].child == c <;> simp[List.filter,q]
theorem yack (ds:List Den) (c:Int) (k:Nat):zrz ds c k≤k:=by
 unfold zrz;exact Nat.le_trans (List.length_filter_le _ _) (by simp;omega)
def zum (ps:List Den) (i:Nat) (x:Ino):Bool:=decide ((if i=0 then 1 else 0)+(zrz ps i ps.length:Int)=x.links) && (decide (¬ x.kind=2) || zpg ps 16 i)
def zqq (ws:List Ino) (ps:List Den):Bool:=decide (∀ i (h:i < ws.length),zum ps i ws[i]=true)
def zei (x:Den):Den:=⟨x.dir,x.name,-1⟩
def zqh (ps:List Den) (x:Den):Bool:=ps.any fun y=>zgw x.dir x.name x.child y.dir y.name y.child
def zic (ps:List Den):Bool:=decide (∀ k (h:k < ps.length),zqh (ps.take k) ps[k]=false)
theorem yacm {ps:List Den} {x:Den} {k:Nat} (hk:k < ps.length) (h:zgw x.dir x.name x.child ps[k].dir ps[k].name ps[k].child=true):zqh ps x=true:=by
 unfold zqh;rw[List.any_eq_true];exact ⟨ps[k],List.getElem_mem _,h⟩
theorem zxp {ps:List Den} {x:Den} (h:∀ j (h:j < ps.length),zgw x.dir x.name x.child ps[j].dir ps[j].name ps[j].child=false):zqh ps x=false:=by
 unfold zqh;rw[List.any_eq_false];intro y hy;obtain ⟨j,hj,rfl⟩:=List.getElem_of_mem hy;rw[h j hj];decide
theorem zyg {ps:List Den} (h:∀ k (h:k < ps.length),zqh (ps.take k) ps[k]=false):zic ps=true:=decide_eq_true h
theorem zua {ps:List Den} {k:Nat} (hk:k < ps.length) (h:zqh (ps.take k) ps[k]=true):zic ps=false:=decide_eq_false (fun x=>by have:=x k hk;rw[h] at this;cases this)
theorem RdD.take {w:World} {ao:Option Addr} {c:Nat} {ps:List Den} {m:Nat} (h:RdD w (.slice ao ps.length c) ps) (hm:m≤ps.length):RdD w (.slice ao m c) (ps.take m):=by
 have:=Rd.take h hm;unfold RdD
 have e:(ps.take m).length=m:=by rw[List.length_take];omega
 have e2:zbm (ps.take m)=(zbm ps).take (m*3):=by
  have hl:=zee (ps.take m)
  have e3:zbm ps=zbm (ps.take m) ++ zbm (ps.drop m):=by
   unfold zbm;rw[← List.flatMap_append,List.take_append_drop]
  rw[e3];exact (List.take_left' (by rw[hl,e])).symm
 rw[e,e2];exact this
theorem below_drewN {B:Nat} {a w:World} (h:Below B a w) (n:Nat):Below B a (w.drewN n):=by
 induction n with
 | zero=>exact h
 | succ n ih=>exact ⟨ih.os,ih.tape,ih.output,ih.size,ih.block⟩
theorem zmm (v:Value) (ps:List Den) (x:Den) (w:World) (h:RdD w v ps) (hn:ps.length≤1048576) :
  Calls Tryz.prog 217 #[v,x.v] w fun e w'=>∃ r:Int,e=.returned (.int .i64 r)∧(decide (0≤r)=zqh ps x)∧Below w.heap.size w w':=by
 obtain ⟨aZ,cZ,rfl,_,hcZ⟩:=h.shape;have HZ:=zaa hcZ;have BW:=zaa ((Below.refl w.heap.size w).alloc (Nat.le_refl _) (.cells #[.int .i64 x.dir,.string x.name,.int .i64 x.child] 143))
 have CB:Hid (∀ w',Below (w.alloc (.cells #[.int .i64 x.dir,.string x.name,.int .i64 x.child] 143)).heap.size (w.alloc (.cells #[.int .i64 x.dir,.string x.name,.int .i64 x.child] 143)) w'→w'.cell? ⟨w.heap.size,0,none⟩=some (.int .i64 x.dir)∧w'.cell? ⟨w.heap.size,1,none⟩=some (.string x.name)∧w'.cell? ⟨w.heap.size,2,none⟩=some (.int .i64 x.child)):=fun w' hb=>zby ((hb.block _ (by simp)).trans (zae rfl))
 have hz:w.heap.size≤(w.alloc (.cells #[.int .i64 x.dir,.string x.name,.int .i64 x.child] 143)).heap.size:=BW.o.size
 obtain ⟨W,hW⟩:∃ W,W=w.alloc (.cells #[.int .i64 x.dir,.string x.name,.int .i64 x.child] 143):=⟨_,rfl⟩
 rw[← hW] at BW CB hz;rw[show x.v=.agg #[.int .i64 x.dir,.string x.name,.int .i64 x.child] from rfl];clear h hcZ;go_enter Tryz.func217,Tryz.ntmps217;go_wp2;rw[← hW];clear hW
 go_loopw [5,8] (fun _ i wr=>∃ k:Nat,k≤ps.length∧i=.int .i64 k∧Hid (Below W.heap.size W wr∧∀ j (h:j < ps.length),j < k→zgw x.dir x.name x.child ps[j].dir ps[j].name ps[j].child=false)) (fun _ i _=>ps.length - (intOf i).toNat)
 case atStart=>exact ⟨0,by omega,rfl,Below.refl _ _,fun j h a=>absurd a (by omega)⟩
 case round =>
  obtain ⟨k,hk,rfl,H⟩:=hrel
  by_cases hlt:k < ps.length
  ·obtain ⟨b,o,rfl,hbl,hcell⟩:=HZ.o (by omega);obtain ⟨x0,x1,x2⟩:=CB.o wr H.o.1;have B0:=zaa (zab BW.o H.o.1 hz);obtain ⟨a0,a1,a2⟩:=hcell k hlt;have d0:=(B0.o.cell (p:=⟨b,o+k*3,none⟩) hbl).trans a0;have d1:=(B0.o.cell (p:=⟨b,o+k*3+1,none⟩) hbl).trans a1;have d2:=(B0.o.cell (p:=⟨b,o+k*3+2,none⟩) hbl).trans a2
   have k0:(0:Int)≤(k:Int):=by omega
   have k1:(k:Int) < (ps.length:Int):=by omega
   clear hcell a0 a1 a2
   cases q:zgw x.dir x.name x.child ps[k].dir ps[k].name ps[k].child with
   | true =>
    have E:=zaa (yacm hlt q);clear H;generalize ps[k]=y at *;go_wp2
    go_quiet (fail)
    go_wp2;go_ret;exact ⟨_,rfl,by rw[E.o];exact decide_eq_true (by omega),below_drewN B0.o _⟩
   | false =>
    have H':Hid (∀ j (h:j < ps.length),j < k+1→zgw x.dir x.name x.child ps[j].dir ps[j].name ps[j].child=false):=fun j h a=>by
     by_cases e:j=k
     ·subst e;exact q
     ·exact H.o.2 j h (by omega)
    have H1:=zaa H.o.1;clear H;generalize ps[k]=y at d0 d1 d2 q;go_wp2
    go_quiet (fail)
    go_wp2
    go_roundw
    case rel=>exact ⟨k+1,by omega,by go_num,below_drewN H1.o _,H'.o⟩
    case measure=>simp[intOf];omega
  ·have E:=zaa (zxp (fun j h=>H.o.2 j h (by omega)));have B0:=zaa (zab BW.o H.o.1 hz);clear H;go_wp2;go_ret;exact ⟨_,rfl,by rw[E.o];rfl,B0.o⟩
theorem zdu (v:Value) (ps:List Den) (x:Den) (w:World) (h:RdD w v ps) (hn:ps.length≤1048576) :
  Calls Tryz.prog 207 #[v,x.v] w fun e w'=>e=.returned (.bool (zqh ps x))∧Below w.heap.size w w':=by
 have HZ:=zaa h;obtain ⟨aZ,cZ,rfl,_,_⟩:=h.shape;have BW:=zaa ((Below.refl w.heap.size w).alloc (Nat.le_refl _) (.cells #[.int .i64 x.dir,.string x.name,.int .i64 x.child] 143));have LI:=zaa (fun w1 h=>zmm (.slice aZ ps.length cZ) ps x w1 h hn);obtain ⟨x0,x1,x2⟩:=zby (zae (w:=w) (o:=.cells #[.int .i64 x.dir,.string x.name,.int .i64 x.child] 143) rfl);rw[show x.v=.agg #[.int .i64 x.dir,.string x.name,.int .i64 x.child] from rfl];clear h;go_enter Tryz.func207,Tryz.ntmps207;go_wp2_with fail;refine (LI.o _ (Rd.below HZ.o BW.o)).mono ?_;rintro e w1 ⟨r,rfl,hr,hb⟩;have R:=zaa hr;have B1:=zaa (zab BW.o hb BW.o.size);clear hr hb x0 x1 x2;go_wp2;go_ret;exact ⟨zad R.o,B1.o⟩
theorem zgy (v:Value) (ps:List Den) (w:World) (h:RdD w v ps) (hn:ps.length≤1048576) :
  Calls Tryz.prog 186 #[v] w fun e w'=>e=.returned (.bool (zic ps))∧Below w.heap.size w w':=by
 have HR:=zaa h;obtain ⟨aZ,cZ,rfl,hcap,hcZ⟩:=h.shape;have HZ:=zaa hcZ;clear h hcZ;go_enter Tryz.func186,Tryz.ntmps186;go_wp2
 go_loopw [3,4,7] (fun _ _ i wr=>∃ k:Nat,k≤ps.length∧i=.int .i64 k∧Hid (Below w.heap.size w wr∧∀ j (h:j < ps.length),j < k→zqh (ps.take j) ps[j]=false)) (fun _ _ i _=>ps.length - (intOf i).toNat)
 case atStart=>exact ⟨0,by omega,rfl,Below.refl _ _,fun j h a=>absurd a (by omega)⟩
 case round =>
  obtain ⟨k,hk,rfl,H⟩:=hrel
  by_cases hlt:k < ps.length
  ·obtain ⟨b,o,rfl,hbl,hcell⟩:=HZ.o (by omega);obtain ⟨a0,a1,a2⟩:=hcell k hlt;have d0:=(H.o.1.cell (p:=⟨b,o+k*3,none⟩) hbl).trans a0;have d1:=(H.o.1.cell (p:=⟨b,o+k*3+1,none⟩) hbl).trans a1;have d2:=(H.o.1.cell (p:=⟨b,o+k*3+2,none⟩) hbl).trans a2
   have k0:(0:Int)≤(k:Int):=by omega
   have k1:(k:Int) < (ps.length:Int):=by omega
   have k2:(k:Int)≤(cZ:Int):=by omega
   have RT:=zaa (RdD.take HR.o hk);have LT:=zaa (show (ps.take k).length≤1048576 by rw[List.length_take];omega);have hz:w.heap.size≤wr.heap.size:=H.o.1.size;have H1:=zaa H.o.1;clear hcell a0 a1 a2
   obtain ⟨wb,hwb⟩:∃ wb:World,wb=wr.alloc (.cells #[.int .i64 ps[k].dir,.string ps[k].name,.int .i64 ps[k].child] 143):=⟨_,rfl⟩
   have B2:Hid (Below w.heap.size w wb):=by rw[hwb];exact H1.o.alloc hz _
   have SK:Hid (∀ w',Below wb.heap.size wb w'→w'.cell? ⟨wr.heap.size,0,none⟩=some (.int .i64 ps[k].dir)∧w'.cell? ⟨wr.heap.size,1,none⟩=some (.string ps[k].name)∧w'.cell? ⟨wr.heap.size,2,none⟩=some (.int .i64 ps[k].child)):=fun w' hb=>zby ((hb.block _ (by rw[hwb];simp)).trans (by rw[hwb];exact zae rfl))
   cases q:zqh (ps.take k) ps[k] with
   | false =>
    have H':Hid (∀ j (h:j < ps.length),j < k+1→zqh (ps.take j) ps[j]=false):=fun j h a=>by
     by_cases e:j=k
     ·subst e;exact q
     ·exact H.o.2 j h (by omega)
    have Q:=zaa q;clear q H;generalize ps[k]=x at d0 d1 d2 Q hwb SK;go_wp2_with fail;rw[← hwb];clear hwb
    go_region_held3 (fun w'=>w'.cell? ⟨wr.heap.size,0,none⟩=some (.int .i64 x.dir)∧w'.cell? ⟨wr.heap.size,1,none⟩=some (.string x.name)∧w'.cell? ⟨wr.heap.size,2,none⟩=some (.int .i64 x.child))
     (exact SK.o _ (by repeat (first | exact BF.o | exact Below.refl _ _ | refine Below.drew ?_)))
     (first
      | (go_at_call 207;refine (zdu _ (ps.take k) x _ (Rd.below RT.o (zab B2.o (by repeat (first | exact Below.refl _ _ | refine Below.drew ?_)) B2.o.size)) LT.o).mono ?_;rw[Q.o];rintro e w1 ⟨rfl,hb1⟩;have BF:Hid (Below wb.heap.size wb w1):=(by first | exact hb1 | exact zab (by repeat (first | exact Below.refl _ _ | refine Below.drew ?_)) hb1 (Nat.le_refl _))))
    all_goals
     have B3:=zaa (zab B2.o BF.o B2.o.size);clear hb1 BF SK d0 d1 d2;go_wp2
     go_roundw
     case rel=>exact ⟨k+1,by omega,by go_num,(by repeat (first | exact B3.o | refine Below.drew ?_)),H'.o⟩
     case measure=>simp[intOf];omega
   | true =>
    have E:=zaa (zua hlt q);have Q:=zaa q;clear q H;generalize ps[k]=x at d0 d1 d2 Q hwb SK;go_wp2_with fail;rw[← hwb];clear hwb
    go_region_held3 (fun w'=>w'.cell? ⟨wr.heap.size,0,none⟩=some (.int .i64 x.dir)∧w'.cell? ⟨wr.heap.size,1,none⟩=some (.string x.name)∧w'.cell? ⟨wr.heap.size,2,none⟩=some (.int .i64 x.child))
     (exact SK.o _ (by repeat (first | exact BF.o | exact Below.refl _ _ | refine Below.drew ?_)))
     (first
      | (go_at_call 207;refine (zdu _ (ps.take k) x _ (Rd.below RT.o (zab B2.o (by repeat (first | exact Below.refl _ _ | refine Below.drew ?_)) B2.o.size)) LT.o).mono ?_;rw[Q.o];rintro e w1 ⟨rfl,hb1⟩;have BF:Hid (Below wb.heap.size wb w1):=(by first | exact hb1 | exact zab (by repeat (first | exact Below.refl _ _ | refine Below.drew ?_)) hb1 (Nat.le_refl _))))
    all_goals
     have B3:=zaa (zab B2.o BF.o B2.o.size);clear hb1 BF SK d0 d1 d2;go_wp2;go_ret;exact ⟨zad E.o.symm,(by repeat (first | exact B3.o | refine Below.drew ?_))⟩
  ·have E:=zaa (zyg (fun j h=>H.o.2 j h (by omega)));have H1:=zaa H.o.1;clear H;go_wp2;go_ret;exact ⟨zad E.o.symm,H1.o⟩
end Go.Proofs.YtbohndgbfbfldaaGreatDoor
