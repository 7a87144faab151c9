/- A region that draws its order, by an invariant over what has been done. -/
import Derived.Test.YtbohndgbfbfldaaGreatDoorMem
import Derived.Orders
namespace Go.Proofs.YtbohndgbfbfldaaGreatDoor
open Go.RowKit
def zyu (l:Array Bool):Nat:=(l.toList.filter fun b=>!b).length
theorem zoe {l:Array Bool} {i:Nat} (h:l.getD i true=false):zyu (l.setIfInBounds i true)+1=zyu l:=by
 have hi:i < l.size:=by
  rcases Nat.lt_or_ge i l.size with h1 | h1
  ·exact h1
  ·rw[Array.getD_eq_getD_getElem?,Array.getElem?_eq_none h1] at h;cases h
 have he:l[i]=false:=by
  rw[Array.getD_eq_getD_getElem?,Array.getElem?_eq_getElem hi] at h;exact h
 obtain ⟨l⟩:=l;simp only[List.size_toArray] at hi;simp only[List.getElem_toArray] at he;unfold zyu;simp only[List.setIfInBounds_toArray]
 have e:l=l.take i ++ l[i] :: l.drop (i+1):=by rw[List.getElem_cons_drop,List.take_append_drop]
 have e':l.set i true=l.take i ++ true :: l.drop (i+1):=by rw[List.set_eq_take_append_cons_drop,if_pos hi]
 rw[e']
 conv=>rhs;rw[e]
 rw[he,List.filter_append,List.filter_append,List.length_append,List.length_append];simp;omega
theorem zkw {md:Region.Mode} {ops:Array Oper} {l:Array Bool} {i:Nat} (h:i∈Region.ready md ops l):i < ops.size∧l.getD i true=false∧∃ o,ops[i]?=some o∧∀ e∈o.after,Region.binds md e=true→l.getD e.on false=true:=by
 unfold Region.ready at h;rw[List.mem_filter,List.mem_range,Bool.and_eq_true] at h;obtain ⟨h1,h2,h3⟩:=h;refine ⟨h1,by simpa using h2,ops[i],Array.getElem?_eq_getElem h1,fun e he hb=>?_⟩;rw[Array.getElem?_eq_getElem h1] at h3;simp only[Option.map_some,Option.getD_some,Array.all_eq_true_iff_forall_mem] at h3;have:=h3 e he;rw[hb] at this;simpa using this
theorem zmu {P:Program} {md:Region.Mode} {ops:Array Oper} {Q:Exit→Act→World→Prop} (Inv:Array Bool→Act→World→Prop)
  (step:∀ l a w,Inv l a w→∀ i∈Region.ready md ops l,wpOp P ops Q i (Inv (l.setIfInBounds i true)) a w)
  (done:∀ l a w,Inv l a w→Region.ready md ops l=[]→Q .normal a w):∀ fuel l a w,zyu l≤fuel→Inv l a w→wpAny P md ops Q fuel l a w
 | 0,l,a,w,hf,h=>by
  have hr:Region.ready md ops l=[]:=by
   rw[List.eq_nil_iff_forall_not_mem];intro i hi;have:=zoe (zkw hi).2.1;omega
  exact ⟨hr,done l a w h hr⟩
 | fuel+1,l,a,w,hf,h=>by
  refine ⟨fun hr=>done l a w h hr,fun i hi=>?_⟩;refine wpOp_mono (fun a' w' h'=>zmu Inv step done fuel _ a' w' ?_ h') (step l a w h i hi);have:=zoe (zkw hi).2.1;omega
end Go.Proofs.YtbohndgbfbfldaaGreatDoor
