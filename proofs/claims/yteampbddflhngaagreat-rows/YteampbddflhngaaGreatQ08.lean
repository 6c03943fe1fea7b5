import Derived.Test.YteampbddflhngaaGreatQ03
namespace Go.Proofs.YteampbddflhngaaGreat
set_option linter.all false
set_option maxRecDepth 100000
set_option maxHeartbeats 2000000
open Go.Proofs.Tryz Go.RowKit
def MA(w:World)(v:Value)(x:ByteArray)(L:κ)(b:SV w v (x::L))(i:∀y∈L,0<y.size)(z:(x.toList == [33])=true)(q:L.length<=500)(p:L.length=0):
  Calls prog 152 #[v,.bool false] w λe m=>jD none w e m:=by
 obtain⟨l,r,h,n,k⟩:=info_parts QN;obtain⟨s,j,rfl⟩:=b.qy;obtain⟨u,t,rfl,f,a⟩:=b.cells (by simp);have d:=a 0 (by simp);rw[uX,gH] at d;go_enter func152,ntmps152;go_wp2_with (refine qT _ w rfl (.tmp 26) 30 9 (some (.const (ι 1))) none rfl underlying30 l r Rl _ (x::L) rfl b 1 (L.length+1) (ze rfl) (zh ⟨rfl,rfl⟩) (by omega) (by simp) L.length (by omega) ?_;intro o g c;simp only[mj,gW,uR] at c)
 exact zO (v:=.tuple #[.agg #[.bool true,.string ByteArray.empty,ν],.bool false]) (by simp[results,results152,go_sem];try rfl) rfl ⟨(by go_grown),_,_,_,_,_,rfl⟩
def Io(w:World)(v:Value)(x:ByteArray)(L:κ)(h:SV w v (x::L))(g:∀y∈L,0<y.size)(G:(x.toList == [33])=true)(B:L.length<=500)(z:¬L.length=0)(hs:yY (RA (gB L 0) 0)=false):
  Calls prog 152 #[v,.bool false] w λe m=>jD none w e m:=by
 obtain⟨s,C,p,t,r⟩:=info_parts QN;obtain⟨D,q,rfl⟩:=h.qy;obtain⟨F,E,rfl,j,f⟩:=h.cells (by simp);have i:=f 0 (by simp);rw[uX,gH] at i;have k:0<(gB L 0).size:=by rw[←xG (by omega:0<L.length)];exact g _ (zt _)
 go_enter func152,ntmps152;go_wp2_with (first|(refine qT _ w rfl (.tmp 26) 30 9 (some (.const (ι 1))) none rfl underlying30 s C Rl _ (x::L) rfl h 1 (L.length+1) (ze rfl) (zh ⟨rfl,rfl⟩) (by omega) (by simp) L.length (by omega) ?_;intro u n d;simp only[mj,gW,uR] at d;obtain⟨b,o,rfl,l,a⟩:=d.cells (by omega);have c:=a 0 (by omega);rw[xG (by omega)] at c;rw[uX] at c;have A:=Ry a;clear a)|(go_at_call 184;refine(kW _ _ k).mono ?_;rintro e m ⟨rfl,rfl⟩))
 exact zO (v:=.tuple #[.agg #[.bool true,.string ByteArray.empty,ν],.bool false]) (by simp[results,results152,go_sem];try rfl) rfl ⟨(by go_grown),_,_,_,_,_,rfl⟩
def Iz(w:World)(v:Value)(x:ByteArray)(L:κ)(h:SV w v (x::L))(g:∀y∈L,0<y.size)(H:(x.toList == [33])=true)(C:L.length<=500)(A:¬L.length=0)(hs:yY (RA (gB L 0) 0)=true)(z:L.length=1):
  Calls prog 152 #[v,.bool false] w λe m=>jD (some ⟨true,gB L 0,[]⟩) w e m:=by
 obtain⟨s,D,p,t,r⟩:=info_parts QN;obtain⟨E,q,rfl⟩:=h.qy;obtain⟨G,F,rfl,j,f⟩:=h.cells (by simp);have i:=f 0 (by simp);rw[uX,gH] at i;have k:0<(gB L 0).size:=by rw[←xG (by omega:0<L.length)];exact g _ (zt _)
 go_enter func152,ntmps152;go_wp2_with (first|(refine qT _ w rfl (.tmp 26) 30 9 (some (.const (ι 1))) none rfl underlying30 s D Rl _ (x::L) rfl h 1 (L.length+1) (ze rfl) (zh ⟨rfl,rfl⟩) (by omega) (by simp) L.length (by omega) ?_;intro u n d;simp only[mj,gW,uR] at d;obtain⟨b,o,rfl,l,a⟩:=d.cells (by omega);have c:=a 0 (by omega);rw[xG (by omega)] at c;rw[uX] at c;have B:=Ry a;clear a)|(go_at_call 184;refine(kW _ _ k).mono ?_;rintro e m ⟨rfl,rfl⟩))
 exact zO (v:=.tuple #[.agg #[.bool true,.string (gB L 0),ν],.bool true]) (by simp[results,results152,go_sem]) rfl ⟨(by go_grown),_,rfl,R7.nil _⟩
def NG(w:World)(v:Value)(x:ByteArray)(L:κ)(h:SV w v (x::L))(g:∀y∈L,0<y.size)(I:(x.toList == [33])=true)(D:L.length<=500)(B:¬L.length=0)(hs:yY (RA (gB L 0) 0)=true)(A:¬L.length=1)(t:L.length<4):
  Calls prog 152 #[v,.bool false] w λe m=>jD none w e m:=by
 obtain⟨s,E,p,u,r⟩:=info_parts QN;obtain⟨F,q,rfl⟩:=h.qy;obtain⟨H,G,rfl,j,f⟩:=h.cells (by simp);have i:=f 0 (by simp);rw[uX,gH] at i;have k:0<(gB L 0).size:=by rw[←xG (by omega:0<L.length)];exact g _ (zt _)
 go_enter func152,ntmps152;go_wp2_with (first|(refine qT _ w rfl (.tmp 26) 30 9 (some (.const (ι 1))) none rfl underlying30 s E Rl _ (x::L) rfl h 1 (L.length+1) (ze rfl) (zh ⟨rfl,rfl⟩) (by omega) (by simp) L.length (by omega) ?_;intro z n d;simp only[mj,gW,uR] at d;obtain⟨b,o,rfl,l,a⟩:=d.cells (by omega);have c:=a 0 (by omega);rw[xG (by omega)] at c;rw[uX] at c;have C:=Ry a;clear a)|(go_at_call 184;refine(kW _ _ k).mono ?_;rintro e m ⟨rfl,rfl⟩))
 exact zO (v:=.tuple #[.agg #[.bool true,.string (gB L 0),ν],.bool false]) (by simp[results,results152,go_sem];try rfl) rfl ⟨(by go_grown),_,_,_,_,_,rfl⟩
def Pp(w:World)(v:Value)(x:ByteArray)(L:κ)(h:SV w v (x::L))(g:∀y∈L,0<y.size)(J:(x.toList == [33])=true)(E:L.length<=500)(C:¬L.length=0)(hs:yY (RA (gB L 0) 0)=true)(B:¬L.length=1)(u:¬L.length<4)(r:L.length%2=1):
  Calls prog 152 #[v,.bool false] w λe m=>jD none w e m:=by
 obtain⟨t,F,p,z,s⟩:=info_parts QN;obtain⟨G,q,rfl⟩:=h.qy;obtain⟨I,H,rfl,j,f⟩:=h.cells (by simp);have i:=f 0 (by simp);rw[uX,gH] at i;have k:0<(gB L 0).size:=by rw[←xG (by omega:0<L.length)];exact g _ (zt _)
 go_enter func152,ntmps152;go_wp2_with (first|(refine qT _ w rfl (.tmp 26) 30 9 (some (.const (ι 1))) none rfl underlying30 t F Rl _ (x::L) rfl h 1 (L.length+1) (ze rfl) (zh ⟨rfl,rfl⟩) (by omega) (by simp) L.length (by omega) ?_;intro A n d;simp only[mj,gW,uR] at d;obtain⟨b,o,rfl,l,a⟩:=d.cells (by omega);have c:=a 0 (by omega);rw[xG (by omega)] at c;rw[uX] at c;have D:=Ry a;clear a)|(go_at_call 184;refine(kW _ _ k).mono ?_;rintro e m ⟨rfl,rfl⟩))
 exact zO (v:=.tuple #[.agg #[.bool true,.string (gB L 0),ν],.bool false]) (by simp[results,results152,go_sem];try rfl) rfl ⟨(by go_grown),_,_,_,_,_,rfl⟩
def GD(w:World)(v:Value)(x:ByteArray)(L:κ)(h:SV w v (x::L))(g:∀y∈L,0<y.size)(M:(x.toList == [33])=true)(G:L.length<=500)(E:¬L.length=0)(hs:yY (RA (gB L 0) 0)=true)(D:¬L.length=1)(A:¬L.length<4)(s:¬L.length%2=1)(u:((gB L 1).toList == [40])=false):
  Calls prog 152 #[v,.bool false] w λe n=>jD none w e n:=by
 obtain⟨z,H,q,B,t⟩:=info_parts QN;obtain⟨I,r,rfl⟩:=h.qy;obtain⟨K,J,rfl,k,f⟩:=h.cells (by simp);have i:=f 0 (by simp);rw[uX,gH] at i;have l:0<(gB L 0).size:=by rw[←xG (by omega:0<L.length)];exact g _ (zt _)
 go_enter func152,ntmps152;go_wp2_with (first|(refine qT _ w rfl (.tmp 26) 30 9 (some (.const (ι 1))) none rfl underlying30 z H Rl _ (x::L) rfl h 1 (L.length+1) (ze rfl) (zh ⟨rfl,rfl⟩) (by omega) (by simp) L.length (by omega) ?_;intro C p d;simp only[mj,gW,uR] at d;obtain⟨b,o,rfl,m,a⟩:=d.cells (by omega);have c:=a 0 (by omega);have j:=a 1 (by omega);rw[xG (by omega)] at c j;rw[uX] at c;have F:=Ry a;clear a)|(go_at_call 184;refine(kW _ _ l).mono ?_;rintro e n ⟨rfl,rfl⟩))
 exact zO (v:=.tuple #[.agg #[.bool true,.string (gB L 0),ν],.bool false]) (by simp[results,results152,go_sem];try rfl) rfl ⟨(by go_grown),_,_,_,_,_,rfl⟩
def Nc(w:World)(v:Value)(x:ByteArray)(L:κ)(h:SV w v (x::L))(g:∀y∈L,0<y.size)(O:(x.toList == [33])=true)(I:L.length<=500)(G:¬L.length=0)(hs:yY (RA (gB L 0) 0)=true)(F:¬L.length=1)(C:¬L.length<4)(u:¬L.length%2=1)(A:((gB L 1).toList == [40])=true)(t:((gB L (L.length-1)).toList == [41])=false):
  Calls prog 152 #[v,.bool false] w λe p=>jD none w e p:=by
 obtain⟨B,J,r,D,z⟩:=info_parts QN;obtain⟨K,s,rfl⟩:=h.qy;obtain⟨N,M,rfl,k,f⟩:=h.cells (by simp);have i:=f 0 (by simp);rw[uX,gH] at i;have l:0<(gB L 0).size:=by rw[←xG (by omega:0<L.length)];exact g _ (zt _)
 go_enter func152,ntmps152;go_wp2_with (first|(refine qT _ w rfl (.tmp 26) 30 9 (some (.const (ι 1))) none rfl underlying30 B J Rl _ (x::L) rfl h 1 (L.length+1) (ze rfl) (zh ⟨rfl,rfl⟩) (by omega) (by simp) L.length (by omega) ?_;intro E q d;simp only[mj,gW,uR] at d;obtain⟨b,o,rfl,n,a⟩:=d.cells (by omega);have c:=a 0 (by omega);have j:=a 1 (by omega);have m:=a (L.length-1) (by omega);rw[xG (by omega)] at c j m;rw[uX] at c;have H:=Ry a;clear a)|(go_at_call 184;refine(kW _ _ l).mono ?_;rintro e p ⟨rfl,rfl⟩))
 exact zO (v:=.tuple #[.agg #[.bool true,.string (gB L 0),ν],.bool false]) (by simp[results,results152,go_sem];try rfl) rfl ⟨(by go_grown),_,_,_,_,_,rfl⟩
end Go.Proofs.YteampbddflhngaaGreat
