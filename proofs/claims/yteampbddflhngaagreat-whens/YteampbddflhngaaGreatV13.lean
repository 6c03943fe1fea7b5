import Derived.Test.YteampbddflhngaaGreatV07
import Derived.Test.YteampbddflhngaaGreatV08
namespace Go.Proofs.YteampbddflhngaaGreat
set_option linter.all false
set_option maxRecDepth 100000
set_option maxHeartbeats 2000000
open Go.Proofs.Tryz Go.RowKit
theorem D5{x:ByteArray}(h:(x.toList == [44])=true):P9 (Pi x 0)=false:=by
 rw[beq_iff_eq,lx] at h;obtain⟨⟨l⟩⟩:=x;simp at h;subst h;rfl
theorem FV(w:World)(v:Value)(L:List ByteArray)(z:Bool)(S:SV w v L)(M:∀y∈L,0<y.size)(a8:L.length<=500)(hb:PK L z=false)(a7:¬L.length=0)(X:yQ (Pi (gB L 0) 0)=true)(ay:¬L.length=1)(aw:¬L.length<4)(ax:¬L.length%2=1)(B:((gB L 1).toList == [40])=true)(C:((gB L (L.length-1)).toList == [41])=true):
  Calls prog 152 #[v,.bool z] w fun e F=>jw (xf false L) w e F:=by
 obtain⟨i0,hi,Q,ab,ag⟩:=info_parts O4;have c:=lJ hb;obtain⟨au,al,rfl⟩:=S.qw;have ad:0<(gB L 0).size:=by rw[←xt (by omega:0<L.length)];exact M _ (zu _)
 obtain⟨b,o,rfl,N,m⟩:=S.cells (by omega);have J:=m 0 (by omega);have aa:=m 1 (by omega);have V:=m (L.length-1) (by omega);rw[xt (by omega)] at J aa V;rw[uI] at J;have ae:=OY m;clear m;have a1:((L.length:Int) == 0)=false:=by rw[beq_eq_false_iff_ne];omega
 have a4:((L.length:Int) == 1)=false:=by rw[beq_eq_false_iff_ne];omega
 have a5:((L.length:Int)%2 == 1)=false:=by rw[beq_eq_false_iff_ne];omega
 rcases c with c|⟨_,c⟩|⟨⟨_,c⟩,rfl⟩
 ·omega
 all_goals
  go_enter func152,ntmps152;go_wp2_with (first|(go_at_call 184;refine(kE _ _ ad).mono ?_;rintro e F ⟨rfl,rfl⟩))
  go_loopw [9] (fun i wr=>∃(k:Nat) (av:Value),2<=k/\k<=L.length-1/\i=.int .i64 k/\Hid (vN L k=true)/\Below w.heap.size w wr/\OZ wr w.heap.size #[.bool false,.string ByteArray.empty,.slice none 0 0] 90/\OZ wr (w.heap.size+1) #[.bool false,.string (gB L 0),av] 90/\wr.ownsRow w.heap.size 9 1 av (uz L k).length ((uz L k).map Value.string)) (fun i _=>L.length-(intOf i).toNat)
  case atStart=>exact⟨2,_,zh _,by omega,rfl,by simp[Hid,vN],(by go_grown),(OZ.new w _ _).below zO,OZ.newAt _ _ _ _ (by simp),yK _ _ _ _⟩
  case round=>
   obtain⟨k,av,t,hk,rfl,H,j,n,g,a⟩:=hrel;obtain⟨A,s,rfl⟩:=zq a;obtain⟨a0,a2⟩:=g.rules;obtain⟨D,a3⟩:=n.rules;have am:=j.size;have aq:=g.lt;have aj:=iD L k;by_cases a6:k<L.length-1
   ·have ac:=(j.cell (p:=⟨b,o+k,none⟩) N).trans (ae.out k (by omega));have ar:b<wr.heap.size:=by omega
    have az:k<L.length:=by omega
    have q:0<L[k].size:=M _ (zu _);rw[xt (by omega:k<L.length)] at ac q;have G:uz L (k+1)=uz L k++(if 2<=k/\k%2=0 then [gB L k] else []):=rfl;have u:vN L (k+1)=(vN L k&&(decide (k<2)||QF L k)):=rfl;rw[H.out,decide_eq_false (by omega:¬k<2),ml,mE] at u;have x:Hid (QF L k=false->vN L (L.length-1)=false):=fun h=>Ap (i:=k+1) (by rw[u,h]) _ (by omega);unfold QF at u x;by_cases f:k%2=0
    ·rw[zb f] at u x;rw[zb ⟨t,f⟩] at G;have ai:((k:Int)%2 == 0)=true:=by rw[beq_iff_eq];omega
     have Y:((k:Int)%2 == 1)=false:=by rw[beq_eq_false_iff_ne];omega
     have T:=OY G;have E:=OY u;clear G u f;cases I:P9 (Pi (gB L k) 0) with
     |false=>
      have R:Hid (xf false L=none):=by unfold Hid xf;rw[za (by omega),X,za (by simp),za (by omega),za (by rw[B,C];simp;omega),x.out I];simp
      clear x T E;generalize gB L k=U at *;go_wp2_with (first|(go_at_call 185;refine(lS _ _ q).mono ?_;rintro e F ⟨rfl,d⟩;obtain rfl:=d.symm))
      rw[R.out];exact zJ (v:=.tuple #[.agg #[.bool false,.string (gB L 0),.slice A (uz L k).length s],.bool false]) (by simp[results,results152,go_sem,D];try rfl) rfl ⟨(by go_grown),_,_,_,_,_,rfl⟩
     |true=>
      rw[I] at E;clear x;generalize gB L k=U at *;generalize Z:uz L k=ak at *;clear Z;go_wp2_with (first|(go_at_call 185;refine(lS _ _ q).mono ?_;rintro e F ⟨rfl,d⟩;obtain rfl:=d.symm))
      go_region_law (first|(refine oe wr _ [.string U] 9 rfl (.tmp 103) (.tmp 108) 30 rfl w.heap.size 9 i0 _ 1 16 underlying30 hi Q ab ag rfl (by decide) _ _ _ (by simp[Act.eval]) a (by exact(by go_grown)) wr.heap.size 1 (by simp[Act.eval]) (by exact OZ.drew (OZ.newAt _ _ _ _ rfl)) rfl (by simp[Value.oneCell']) (by omega) (by omega) j.size ?_;intro v' w2 P ah t ao;obtain⟨af,K,rfl⟩:=zq P;have l:=OZ.keep (OZ.drew (g.below zO)) (fg a g (by decide)) t;have O:=OZ.keep (OZ.drew (n.below zO)) (fg a n (by decide)) t;obtain⟨ap,an⟩:=l.rules))
      all_goals
       go_wp2;go_roundw
       case rel=>exact⟨k+1,_,by omega,by omega,by go_num,E,(j.trans ah).setCell (by simp) _,O.set_ne (by omega) _ _,l.set 2 _,by rw[T.out];have:=xQ P ((Pm.refl (w.heap.size+1) w2).setCell 2 (.slice af (ak.length+1) K)) l (by decide);simpa using this⟩
       case measure=>simp[intOf];omega
    ·rw[za f] at u x;rw[za (by omega),qA] at G;have ai:((k:Int)%2 == 0)=false:=by rw[beq_eq_false_iff_ne];omega
     have Y:((k:Int)%2 == 1)=true:=by rw[beq_iff_eq];omega
     have T:=OY G;have E:=OY u;clear G u f;cases I:((gB L k).toList == [44]) with
     |false=>
      have R:Hid (xf false L=none):=by unfold Hid xf;rw[za (by omega),X,za (by simp),za (by omega),za (by rw[B,C];simp;omega),x.out I];simp
      clear x T E;generalize gB L k=U at *;go_wp2_with (first|(go_at_call 185;refine(lS _ _ q).mono ?_;rintro e F ⟨rfl,d⟩;obtain rfl:=d.symm))
      rw[R.out];exact zJ (v:=.tuple #[.agg #[.bool false,.string (gB L 0),.slice A (uz L k).length s],.bool false]) (by simp[results,results152,go_sem,D];try rfl) rfl ⟨(by go_grown),_,_,_,_,_,rfl⟩
     |true=>
      rw[I] at E;have a9:=D5 I;clear x;generalize gB L k=U at *;go_wp2_with (first|(go_at_call 185;refine(lS _ _ q).mono ?_;rintro e F ⟨rfl,d⟩;obtain rfl:=d.symm))
      go_roundw
      case rel=>exact⟨k+1,_,by omega,by omega,by go_num,E,j,n,g,by rw[T.out];exact a⟩
      case measure=>simp[intOf];omega
   ·have W:k=L.length-1:=by omega
    have R:Hid (xf false L=some ⟨false,gB L 0,uz L k⟩):=by unfold Hid xf;rw[za (by omega),X,za (by simp),za (by omega),za (by rw[B,C];simp;omega),←W,H.out];simp
    clear H;generalize uz L k=ak at *;go_wp2;rw[R.out];exact zJ (v:=.tuple #[.agg #[.bool false,.string (gB L 0),.slice A ak.length s],.bool true]) (by simp[results,results152,go_sem,D]) rfl ⟨(by go_grown),_,rfl,xQ (r:=w.heap.size) a (by repeat'(first|with_reducible(first|apply xR|assumption|apply xN|apply xA|apply xD|apply xS|apply xT)|go_size)) n (by decide)⟩
end Go.Proofs.YteampbddflhngaaGreat
