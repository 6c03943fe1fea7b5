import Derived.Test.YteampbddflhngabGreatJ31
import Derived.Test.YteampbddflhngabGreatJ27

namespace Go.Proofs.YteampbddflhngabGreat
open Go.RowKit
variable {lo:Nat}
theorem Tryz.infoFact:(Tryz.prog.info? 153).map (fun i=>(i.zero,i.size,i.bytes))=some (some (.agg #[.int .i64 0,.int .i64 0,.int .i64 0,.int .i64 0]),4,32):=by kernel_rfl
theorem Tryz.infoRule:(Tryz.prog.info? 150).map (fun i=>(i.zero,i.size,i.bytes))=some (some (.agg #[.int .i64 0,.int .i64 0,.int .i64 0,.slice none 0 0,.slice none 0 0,.slice none 0 0]),6,96):=by kernel_rfl
def zki(f:zib):List Value:=[.int .i64 (f.pred:Nat),.int .i64 (f.row.getD 0 0:Nat),.int .i64 (f.row.getD 1 0:Nat),.int .i64 (f.row.getD 2 0:Nat)]
def zct(fs:List zib):List Value:=fs.flatMap zki
def zi6(r:zaf)(p:Value × Value × Value):List Value:=[.int .i64 (r.stratum:Nat),.int .i64 (r.vars:Nat),.int .i64 (r.head.pred:Nat),p.1,p.2.1,p.2.2]
def zc5(rs:List zaf)(ps:List (Value × Value × Value)):List Value:=(List.zipWith zi6 rs ps).flatten
theorem zok(fs:List zib)(f:zib):zct (fs++[f])=zct fs++zki f:=by simp[zct]
theorem zoq(rs:List zaf)(ps:List (Value × Value × Value))(r:zaf)(p:Value × Value × Value)(h:ps.length=rs.length):zc5 (rs++[r]) (ps++[p])=zc5 rs ps++zi6 r p:=by
 unfold zc5
 rw[List.zipWith_append h.symm]
 simp
def zmq(lo:Nat)(w:World)(v:Value)(fs:List zib):Prop:=w.ownsRow lo 153 4 v fs.length (zct fs)
structure zcr (lo:Nat) (w:World) (v:Value) (rs:List zaf) (ps:List (Value × Value × Value)):Prop where
 own:w.ownsRow lo 150 6 v rs.length (zc5 rs ps)
 len:ps.length=rs.length
 rule:∀ k (_:k < rs.length) (_:k < ps.length),zdj lo w ps[k].1 ps[k].2.1 ps[k].2.2 rs[k]
 few:rs.length<=1000
theorem zcr.below{w w':World}{v:Value}{rs:List zaf}{ps:List (Value × Value × Value)}(h:zcr lo w v rs ps)(hb:Below w.heap.size w w'):zcr lo w' v rs ps:=⟨zaa h.own hb,h.len,fun k a b=>(h.rule k a b).below hb,h.few⟩
theorem zcr.saveT{b0:Nat}{w w':World}{v:Value}{rs:List zaf}{ps:List (Value × Value × Value)}{T:TypeId}{M:List Nat}(h:zcr b0 w v rs ps)(hs:zao M w w')(hM:OfT w T M)(hT:208≠T)(hT2:147≠T)(hT3:150≠T):zcr b0 w' v rs ps:=⟨zak h.own hs hM hT3,h.len,fun k a b=>(h.rule k a b).saveT hs hM hT hT2,h.few⟩
theorem zcr.push{b0:Nat}{w w':World}{v v':Value}{rs:List zaf}{ps:List (Value × Value × Value)}{r:zaf}{p:Value × Value × Value}(h:zcr b0 w v rs ps)(hl:rs.length+1<=1000)(hr:zdj b0 w p.1 p.2.1 p.2.2 r)(ho:w'.ownsRow b0 150 6 v' (rs.length+1) (zc5 rs ps++zi6 r p))(hs:zao v.ownBlock.toList w w'):zcr b0 w' v' (rs++[r]) (ps++[p]):=by
 have hM:=OfT.own h.own
 refine⟨by rw[zoq _ _ _ _ h.len,List.length_append];exact ho,by simp[h.len],fun k a b=>?_,by simpa using hl⟩
 by_cases hk:k < rs.length
 ·have hk2:k < ps.length:=by have:=h.len;omega
  rw[List.getElem_append_left hk,List.getElem_append_left hk2]
  exact(h.rule k hk hk2).saveT hs hM (by decide) (by decide)
 ·obtain rfl:k=rs.length:=by simp at a;omega
  have h2:=h.len
  simp only[← h2,List.getElem_concat_length]
  exact hr.saveT hs hM (by decide) (by decide)
theorem zcr.cell{w:World}{ao:Option Addr}{n cap:Nat}{rs:List zaf}{ps:List (Value × Value × Value)}(h:zcr lo w (.slice ao n cap) rs ps)(k:Nat)(hk:k < rs.length)(hk2:k < ps.length):∃ g,ao=some ⟨g,0,none⟩/\g < w.heap.size/\w.cell? ⟨g,k * 6,none⟩=some (.int .i64 (rs[k].stratum:Nat))/\w.cell? ⟨g,k * 6+1,none⟩=some (.int .i64 (rs[k].vars:Nat))/\w.cell? ⟨g,k * 6+2,none⟩=some (.int .i64 (rs[k].head.pred:Nat))/\w.cell? ⟨g,k * 6+3,none⟩=some ps[k].1/\w.cell? ⟨g,k * 6+4,none⟩=some ps[k].2.1/\w.cell? ⟨g,k * 6+5,none⟩=some ps[k].2.2:=by
 obtain⟨g,cap',hv,_,hg,hc⟩:=zas h.own (by omega)
 simp at hv
 have key:∀(rs:List zaf) (ps:List (Value × Value × Value)) (k:Nat) (h1:k < rs.length) (h2:k < ps.length),(zc5 rs ps)[k * 6]?=some (.int .i64 (rs[k].stratum:Nat))/\(zc5 rs ps)[k * 6+1]?=some (.int .i64 (rs[k].vars:Nat))/\(zc5 rs ps)[k * 6+2]?=some (.int .i64 (rs[k].head.pred:Nat))/\(zc5 rs ps)[k * 6+3]?=some ps[k].1/\(zc5 rs ps)[k * 6+4]?=some ps[k].2.1/\(zc5 rs ps)[k * 6+5]?=some ps[k].2.2:=by
  intro rs
  induction rs with
  |nil=>intro ps k h1;simp at h1
  |cons r l ih =>
   intro ps k h1 h2
   match ps,k,h1,h2 with
   |p::ps,0,_,_=>simp[zc5,zi6]
   |p::ps,k+1,h1,h2 =>
    have:=ih ps k (by simpa using h1) (by simpa using h2)
    simp only[zc5,List.zipWith_cons_cons,List.flatten_cons] at this ⊢
    rw[show(k+1) * 6=k * 6+6 from by omega]
    have e0:k * 6+6=(zi6 r p).length+k * 6:=by simp[zi6];omega
    rw[e0]
    simp only[Nat.add_assoc,List.getElem?_append_right (Nat.le_add_right _ _),Nat.add_sub_cancel_left]
    simpa using this
 obtain⟨q0,q1,q2,q3,q4,q5⟩:=key rs ps k hk hk2
 exact⟨g,hv.1,hg,hc _ _ q0,hc _ _ q1,hc _ _ q2,hc _ _ q3,hc _ _ q4,hc _ _ q5⟩
theorem zlx:∀(fs:List zib) (k:Nat) (h:k < fs.length),(zct fs)[k * 4]?=some (.int .i64 (fs[k].pred:Nat))/\(zct fs)[k * 4+1]?=some (.int .i64 (fs[k].row.getD 0 0:Nat))/\(zct fs)[k * 4+2]?=some (.int .i64 (fs[k].row.getD 1 0:Nat))/\(zct fs)[k * 4+3]?=some (.int .i64 (fs[k].row.getD 2 0:Nat))
 |[],k,h=>by simp at h
 |f::l,0,_=>by simp[zct,zki]
 |f::l,k+1,h=>by
  have:=zlx l k (by simpa using h)
  simp only[zct,List.flatMap_cons] at this ⊢
  rw[show(k+1) * 4=k * 4+4 from by omega]
  have e0:k * 4+4=(zki f).length+k * 4:=by simp[zki];omega
  rw[e0]
  simp only[Nat.add_assoc,List.getElem?_append_right (Nat.le_add_right _ _),Nat.add_sub_cancel_left]
  simpa using this
def zfe(t:List zav)(ns:List ByteArray)(os:Option (List (Option (List Int))))(cs:List zac):List zaf:=cs.zipIdx.filterMap fun x=>if x.1.body.length > 0 then some (zn2 t ns x.1 (zei os x.2)) else none
def zeh(t:List zav)(ns:List ByteArray)(cs:List zac):List zib:=(cs.filter fun c=>!decide (c.body.length > 0)).map (zij t ns)
def zjx(t:List zav)(ns:List ByteArray)(os:Option (List (Option (List Int))))(cs:List zac):zre:={ width:=ns.length,arities:=t.map (·.arity),facts:=zeh t ns cs,rules:=zfe t ns os cs }
theorem zvo(t:List zav)(ns:List ByteArray)(os:Option (List (Option (List Int))))(cs:List zac)(k:Nat)(hk:k < cs.length):zfe t ns os (cs.take (k+1))=zfe t ns os (cs.take k)++(if cs[k].body.length > 0 then [zn2 t ns cs[k] (zei os k)] else []):=by
 unfold zfe
 rw[List.take_succ_eq_append_getElem hk,List.zipIdx_append,List.filterMap_append]
 congr 1
 simp only[List.zipIdx_singleton,List.length_take,Nat.zero_add,List.filterMap_cons,List.filterMap_nil]
 rw[Nat.min_eq_left (by omega)]
 by_cases h:cs[k].body.length > 0
 ·rw[if_pos h,if_pos h]
 ·rw[if_neg h,if_neg h]
theorem zuv(t:List zav)(ns:List ByteArray)(cs:List zac)(k:Nat)(hk:k < cs.length):zeh t ns (cs.take (k+1))=zeh t ns (cs.take k)++(if cs[k].body.length > 0 then [] else [zij t ns cs[k]]):=by
 unfold zeh
 rw[zf5 _ _ _ hk,List.map_append]
 congr 1
 by_cases h:cs[k].body.length > 0
 ·simp[h]
 ·simp[h]
theorem zy2(t:List zav)(ns:List ByteArray)(os:Option (List (Option (List Int))))(cs:List zac):(zfe t ns os cs).length<=cs.length:=by
 have:=List.length_filterMap_le (fun x:zac × Nat=>if x.1.body.length > 0 then some (zn2 t ns x.1 (zei os x.2)) else none) cs.zipIdx
 simpa [zfe] using this
theorem zx0(t:List zav)(ns:List ByteArray)(cs:List zac):(zeh t ns cs).length<=cs.length:=by
 unfold zeh
 rw[List.length_map]
 exact List.length_filter_le _ _
structure zja (B:Nat) (w0 w:World) (sb sr mb:Nat) (mv1 mv2 av fv rv:Value) (wd:Nat) (xs:List Nat) (fs:List zib) (rs:List zaf) (ps:List (Value × Value × Value)):Prop where
 box:Box w sb #[.int .i64 (wd:Nat),av,fv,rv] 99
 res:Box w sr #[.int .i64 0,.slice none 0 0,.slice none 0 0,.slice none 0 0] 99
 mak:Box w mb #[mv1,mv2] 143
 ari:w.ownsRow B 3 1 av xs.length (xs.map ivN)
 fac:zmq B w fv fs
 rul:zcr B w rv rs ps
 below:Below B w0 w
 low:B<=sb/\B<=sr/\sb≠sr
theorem zja.next{B:Nat}{w0 w w':World}{sb sr mb:Nat}{mv1 mv2 av fv rv:Value}{wd:Nat}{xs:List Nat}{fs:List zib}{rs:List zaf}{ps:List (Value × Value × Value)}(h:zja B w0 w sb sr mb mv1 mv2 av fv rv wd xs fs rs ps)(hb:Below w.heap.size w w')(hB:B<=w0.heap.size):zja B w0 w' sb sr mb mv1 mv2 av fv rv wd xs fs rs ps :=
 ⟨h.box.below hb,h.res.below hb,h.mak.below hb,zaa h.ari hb,zaa h.fac hb,h.rul.below hb,zae h.below hb hB,h.low⟩
theorem zja.pushF{B:Nat}{w0 w w3:World}{sb sr mb:Nat}{mv1 mv2 av fv rv v':Value}{wd:Nat}{xs:List Nat}{fs fs':List zib}{rs:List zaf}{ps:List (Value × Value × Value)}(h:zja B w0 w sb sr mb mv1 mv2 av fv rv wd xs fs rs ps)(hs:zao fv.ownBlock.toList w w3)(hn:zmq B w3 v' fs')(hB:B<=w.heap.size):zja B w0 (w3.setCell ⟨sb,2,none⟩ v') sb sr mb mv1 mv2 av v' rv wd xs fs' rs ps:=by
 have hM:OfT w 153 fv.ownBlock.toList:=OfT.own h.fac
 have hb3:=h.box.saveT hs hM (by decide)
 have hM2:=OfT.box hb3
 have hs2:zao [sb] w3 (w3.setCell ⟨sb,2,none⟩ v'):=zao.set _ _ _ _
 have hq:=hb3.set 2 v'
 exact⟨by simpa using hq,(h.res.saveT hs hM (by decide)).set_ne (Ne.symm h.low.2.2) _ _,(h.mak.saveT hs hM (by decide)).saveT hs2 hM2 (by decide),zak (zak h.ari hs hM (by decide)) hs2 hM2 (by decide),zak hn hs2 hM2 (by decide),(h.rul.saveT hs hM (by decide) (by decide) (by decide)).saveT hs2 hM2 (by decide) (by decide) (by decide),(h.below.trans (hs.below (fun x hx=>zej h.fac (zc1 hx)) hB)).setCell h.low.1 _,h.low⟩
theorem zja.pushR{B:Nat}{w0 w w3:World}{sb sr mb:Nat}{mv1 mv2 av fv rv v':Value}{wd:Nat}{xs:List Nat}{fs:List zib}{rs rs':List zaf}{ps ps':List (Value × Value × Value)}(h:zja B w0 w sb sr mb mv1 mv2 av fv rv wd xs fs rs ps)(hs:zao rv.ownBlock.toList w w3)(hn:zcr B w3 v' rs' ps')(hB:B<=w.heap.size):zja B w0 (w3.setCell ⟨sb,3,none⟩ v') sb sr mb mv1 mv2 av fv v' wd xs fs rs' ps':=by
 have hM:OfT w 150 rv.ownBlock.toList:=OfT.own h.rul.own
 have hb3:=h.box.saveT hs hM (by decide)
 have hM2:=OfT.box hb3
 have hs2:zao [sb] w3 (w3.setCell ⟨sb,3,none⟩ v'):=zao.set _ _ _ _
 have hq:=hb3.set 3 v'
 exact⟨by simpa using hq,(h.res.saveT hs hM (by decide)).set_ne (Ne.symm h.low.2.2) _ _,(h.mak.saveT hs hM (by decide)).saveT hs2 hM2 (by decide),zak (zak h.ari hs hM (by decide)) hs2 hM2 (by decide),zak (zak h.fac hs hM (by decide)) hs2 hM2 (by decide),hn.saveT hs2 hM2 (by decide) (by decide) (by decide),(h.below.trans (hs.below (fun x hx=>zej h.rul.own (zc1 hx)) hB)).setCell h.low.1 _,h.low⟩
structure zka (lo:Nat) (w:World) (av fv rv:Value) (S:zre) (ps:List (Value × Value × Value)):Prop where
 ari:w.ownsRow lo 3 1 av S.arities.length (S.arities.map ivN)
 fac:zmq lo w fv S.facts
 rul:zcr lo w rv S.rules ps
set_option maxRecDepth 100000
set_option maxHeartbeats 4000000
theorem Tryz.infoWork:(Tryz.prog.info? 216).map (fun i=>(i.zero,i.size,i.bytes))=some (some (.agg #[.int .i64 0,.int .i64 0,.int .i64 0,.slice none 0 0,.slice none 0 0,.slice none 0 0,.slice none 0 0,.slice none 0 0]),8,144):=by kernel_rfl
theorem zee{t:TypeId}(h:NoT t)(h2:t∉[157,112,116,232,243,223]):∀ ρ,¬ zbs t ρ:=fun ρ q=>by
 rcases q with q|q
 ·exact q.1 h
 ·exact h2 q
theorem zcr.mod{b0:Nat}{ok:TypeId->zay->Prop}{w w':World}{own own':Nat->zay}{v:Value}{rs:List zaf}{ps:List (Value × Value × Value)}(h:zcr b0 w v rs ps)(m:Mod lo ok w own w' own')(h1:∀ ρ,¬ ok 208 ρ)(h2:∀ ρ,¬ ok 147 ρ)(h3:∀ ρ,¬ ok 150 ρ):zcr b0 w' v rs ps:=⟨zd7 h.own m h3,h.len,fun k a b=>(h.rule k a b).mod m h1 h2,h.few⟩
theorem zch.make{w w':World}{own own':Nat->zay}{wd:Nat}{wv:Value}{Ws:List zbe}{Ps:List za6}(h:zch lo w own wd wv Ws Ps)(m:Mod lo (zh5 Ws.length) w own w' own'):zch lo w' own' wd wv Ws Ps :=
 ⟨zd7 h.arr m (zgs (by decide) (by decide)),h.plen,fun k a b=>(h.work k a b).mod m (zgs (by decide) (by decide)) (zgs (by decide) (by decide)) (zjz (by omega) (by omega)) (zgs (by decide) (by decide)) (fun i j t ht q=>by
  rcases q with q|⟨rfl,_⟩
  ·exact zfq (by omega) q
  ·exact ht (by decide)),h.few⟩
theorem zzg(Ws:List zbe)(Ps:List za6)(h:Ps.length=Ws.length)(W:zbe)(P:za6):zlt (Ws++[W]) (Ps++[P])=zlt Ws Ps++zb2 W.rule P:=by
 simp[zlt,List.zipWith_append h.symm]
theorem zch.push{w w':World}{own:Nat->zay}{wd:Nat}{wv v':Value}{Ws:List zbe}{Ps:List za6}{W:zbe}{P:za6}(h:zch lo w own wd wv Ws Ps)(hw:zdy lo w own Ws.length wd W P)(hl:Ws.length+1<=1000)(ho:w'.ownsRow lo 216 8 v' (Ws.length+1) (zlt Ws Ps++zb2 W.rule P))(hs:zao wv.ownBlock.toList w w'):zch lo w' own wd v' (Ws++[W]) (Ps++[P])/\Mod lo (zev [216]) w own w' own:=by
 have hM:Mod lo (zev [216]) w own w' own:=Mod.ofSave own hs fun b hb=>by
  have hb':wv.ownBlock=some b:=by simpa using hb
  obtain⟨c,hc⟩:=zd8 h.arr hb'
  exact⟨zej h.arr hb',zdk h.arr hb',c,_,hc,List.mem_singleton.2 rfl⟩
 have no:∀ t,t∉[216]->∀ ρ,¬ zev [216] t ρ:=fun t ht ρ q=>ht q
 have hk:∀ k W P,zdy lo w own k wd W P->zdy lo w' own k wd W P:=fun k W P q=>q.mod hM (no _ (by decide)) (no _ (by decide)) (no _ (by decide) _) (no _ (by decide)) (fun _ _ t ht q=>by rw[List.mem_singleton.1 q] at ht;exact ht (by decide))
 refine⟨⟨?_,by simp[h.plen],fun k a b=>?_,by simpa using hl⟩,hM⟩
 ·rw[zzg Ws Ps h.plen,List.length_append]
  exact ho
 ·simp only[List.length_append,List.length_cons,List.length_nil] at a b
  by_cases hi:k < Ws.length
  ·have hi2:k < Ps.length:=by rw[h.plen];exact hi
   rw[List.getElem_append_left hi,List.getElem_append_left hi2]
   exact hk _ _ _ (h.work k hi hi2)
  ·obtain rfl:k=Ws.length:=by omega
   have e1:(Ws++[W])[Ws.length]=W:=by simp
   have e2:(Ps++[P])[Ws.length]=P:=by simp[← h.plen]
   rw[e1,e2]
   exact hk _ _ _ hw
theorem zi9.push{tbs:List Nat}{n:Nat}{Ws:List zbe}{Ps:List za6}(h:zi9 tbs n Ws Ps)(hl:Ps.length=Ws.length){W:zbe}{P:za6}(hp:zhg tbs n W.rule P.nbs):zi9 tbs n (Ws++[W]) (Ps++[P]):=by
 intro k a b
 simp only[List.length_append,List.length_cons,List.length_nil] at a b
 by_cases hi:k < Ws.length
 ·have hi2:k < Ps.length:=by rw[hl];exact hi
  rw[List.getElem_append_left hi,List.getElem_append_left hi2]
  exact h k hi hi2
 ·obtain rfl:k=Ws.length:=by omega
  have e1:(Ws++[W])[Ws.length]=W:=by simp
  have e2:(Ps++[P])[Ws.length]=P:=by simp[← hl]
  rw[e1,e2]
  exact hp
def zla(n:Nat)(rs:List zaf):Prop:=∀ r∈rs,(∀ l∈r.plain,l.pred < n)/\∀ l∈r.nots,l.pred < n/\l.pred≠r.head.pred
def zrm(lo:Nat)(w:World)(own:Nat->zay)(rb:Nat)(R:zbt)(ws:List zbe)(wd mr mx:Nat)(Q:zcq)(e:Ending)(w':World):Prop:=∃ wv own' Ps,e=.returned wv/\zch lo w' own' wd wv ws Ps/\zi9 Q.tbs R.rows.length ws Ps/\zc6 lo w' own' rb R wd mr mx Q/\Mod lo zbs w own w' own'
theorem z2u(w:World)(own:Nat->zay)(rb s:Nat)(R:zbt)(rv:Value)(rs:List zaf)(ps:List (Value × Value × Value))(ws:List zbe)(wd mr mx:Nat)(Q:zcq)(fuel:Nat)(h:zc6 lo w own rb R wd mr mx Q)(hr:zcr lo w rv rs ps)(hlo:lo<=w.heap.size)(hok:zla R.rows.length rs)(hv:worksR fuel wd R s rs=some ws) :
  Calls Tryz.prog 105 #[.pointer (some ⟨rb,0,none⟩),rv,.int .i64 s] w fun e w'=>zrm lo w own rb R ws wd mr mx Q e w':=by
 obtain⟨i0,hi,hz0,hzs,hzb⟩:=info_parts Tryz.infoWork
 have HH:Hid (zc6 lo w own rb R wd mr mx Q):=h
 have HRU:Hid (zcr lo w rv rs ps):=hr
 have HLO:Hid (lo<=w.heap.size):=hlo
 have HOK:Hid (zla R.rows.length rs):=hok
 have HWS:Hid (worksR fuel wd R s (rs.drop 0)=some ws):=hv
 have hrf:=hr.few
 obtain⟨aor,capr,hrv⟩:=zab hr.own
 subst hrv
 clear h hr hlo hok hv
 go_enter Tryz.func105,Tryz.ntmps105
 go_upto_region 3 with fail
 go_loopw [7,13] (fun v7 v13 wr=>∃ m:Nat,m<=rs.length/\v13=.int .i64 m/\∃ dn rest ownk Ps,Hid (zch lo wr ownk wd v7 dn Ps)/\Hid (zi9 Q.tbs R.rows.length dn Ps)/\Hid (zc6 lo wr ownk rb R wd mr mx Q)/\Hid (Mod lo zbs w own wr ownk)/\Hid (worksR fuel wd R s (rs.drop m)=some rest)/\Hid (dn++rest=ws)/\Hid (dn.length<=m)/\Hid (∀ b,v7.ownBlock=some b->w.heap.size<=b)) (fun _ i _=>rs.length - (intOf i).toNat)
 case atStart=>exact⟨0,Nat.zero_le _,rfl,[],ws,own,[],⟨World.ownsRow_nil _ _ _ _,rfl,fun k a=>by simp at a,by simp⟩,(fun k a=>by simp at a),HH,Mod.refl _ _,HWS,rfl,Nat.le_refl _,fun b hb=>by cases hb⟩
 case round =>
  clear HWS
  obtain⟨m,hm,rfl,dn,rest,ownk,Ps,HWO,HNL,HRO,HMO,HRE,HDR,HDL,HNW⟩:=hrel
  have hszk:=HMO.out.size
  have hlok:lo<=wr.heap.size:=Nat.le_trans HLO.out hszk
  obtain⟨aow,capw,hwv⟩:=zab HWO.out.arr
  subst hwv
  by_cases hlt:m < rs.length
  ·have HRK:Hid (zcr lo wr (.slice aor rs.length capr) rs ps):=HRU.out.mod HMO.out (zee (by decide) (by decide)) (zee (by decide) (by decide)) (zee (by decide) (by decide))
   have hm2:m < ps.length:=by rw[HRK.out.len];exact hlt
   obtain⟨g,hao,hg,q0,q1,q2,q3,q4,q5⟩:=HRK.out.cell m hlt hm2
   subst hao
   have hru:=HRK.out.rule m hlt hm2
   obtain⟨aot,capt,htv⟩:=hru.head.shape
   obtain⟨aop,capp,hpv⟩:=hru.plain.shape
   obtain⟨aon,capn,hnv⟩:=hru.nots.shape
   rw[htv] at q3
   rw[hpv] at q4
   rw[hnv] at q5
   rw[htv,hpv,hnv] at hru
   have hre:=HRE.out
   rw[List.drop_eq_getElem_cons hlt] at hre
   unfold worksR at hre
   have hmkk:(m:Int) < (rs.length:Int):=by omega
   have hok:=HOK.out _ (List.getElem_mem hlt)
   clear htv hpv hnv
   generalize rs[m]=r at *
   by_cases hst:r.stratum=s
   ·rw[if_pos hst] at hre
    subst hst
    obtain⟨vs,ws2,hvs,hws2,hrest⟩:∃ vs ws2,zk7 fuel wd R r.plain=some vs/\worksR fuel wd R r.stratum (rs.drop (m+1))=some ws2/\rest=⟨r,vs⟩::ws2:=by
     split at hre
     ·rename_i vs ws2 h1 h2
      exact⟨vs,ws2,h1,h2,by simpa using hre.symm⟩
     ·cases hre
    have HR2:Hid (worksR fuel wd R r.stratum (rs.drop (m+1))=some ws2):=hws2
    have HD2:Hid ((dn++[⟨r,vs⟩])++ws2=ws):=show(dn++[⟨r,vs⟩])++ws2=ws by rw[← HDR.out,hrest];simp
    have HWK:Hid (∀ W0,Below wr.heap.size wr W0->Calls Tryz.prog 125 #[.pointer (some ⟨rb,0,none⟩),.agg #[.int .i64 (r.stratum:Nat),.int .i64 (r.vars:Nat),.int .i64 (r.head.pred:Nat),.slice aot r.head.terms.length capt,.slice aop r.plain.length capp,.slice aon r.nots.length capn]] W0 fun e w'=>∃ a1 c1 a2 c2 a3 c3 a4 c4 a5 c5 vps nbs own5,e=.returned (.agg #[.int .i64 (r.stratum:Nat),.int .i64 (r.vars:Nat),.int .i64 (r.head.pred:Nat),.slice a1 r.head.terms.length c1,.slice a2 r.plain.length c2,.slice a3 r.nots.length c3,.slice a4 vs.length c4,.slice a5 r.nots.length c5])/\Hid (zdy lo w' own5 dn.length wd ⟨r,vs⟩ ⟨.slice a1 r.head.terms.length c1,.slice a2 r.plain.length c2,.slice a3 r.nots.length c3,.slice a4 vs.length c4,.slice a5 r.nots.length c5,vps,nbs⟩/\zhg Q.tbs R.rows.length r nbs/\Mod lo (zh5 dn.length) W0 ownk w' own5)):=fun W0 hb=>by
     refine(z5h W0 ownk rb dn.length R r _ _ _ vs wd mr mx Q fuel (HRO.out.below hb) (hru.below hb) (Nat.le_trans hlok hb.size) hok.1 hok.2 hvs).mono ?_
     rintro e w' ⟨⟨tv,pv,nv,vv,ntv,vps,nbs⟩,own5,rfl,hw5,hn5,hm5⟩
     obtain⟨a1,c1,e1⟩:=hw5.rule.head.shape
     obtain⟨a2,c2,e2⟩:=hw5.rule.plain.shape
     obtain⟨a3,c3,e3⟩:=hw5.rule.nots.shape
     obtain⟨a4,c4,e4⟩:=zab hw5.views
     obtain⟨a5,c5,e5⟩:=zab hw5.nots
     dsimp only at e1 e2 e3 e4 e5
     subst e1 e2 e3 e4 e5
     exact⟨a1,c1,a2,c2,a3,c3,a4,c4,a5,c5,vps,nbs,own5,rfl,hw5,hn5,hm5⟩
    have hgr:Below wr.heap.size wr (wr.alloc (.cells #[.int .i64 (r.stratum:Nat),.int .i64 (r.vars:Nat),.int .i64 (r.head.pred:Nat),.slice aot r.head.terms.length capt,.slice aop r.plain.length capp,.slice aon r.nots.length capn] 150)):=(by go_grown)
    have HGR:Hid (Below wr.heap.size wr (wr.alloc (.cells #[.int .i64 (r.stratum:Nat),.int .i64 (r.vars:Nat),.int .i64 (r.head.pred:Nat),.slice aot r.head.terms.length capt,.slice aop r.plain.length capp,.slice aon r.nots.length capn] 150))):=hgr
    have hdl:dn.length<=999:=by have:=HDL.out;omega
    clear hre hru hgr hok hrest hws2 hvs
    go_upto_region 7 with (first|(go_at_call 125;refine(HWK.out _ HGR.out).mono ?_;rintro e w5 ⟨a1,c1,a2,c2,a3,c3,a4,c4,a5,c5,vps,nbs,own5,rfl,HX⟩))
    have hg5:Below w5.heap.size w5 (w5.alloc (.cells #[.int .i64 (r.stratum:Nat),.int .i64 (r.vars:Nat),.int .i64 (r.head.pred:Nat),.slice a1 r.head.terms.length c1,.slice a2 r.plain.length c2,.slice a3 r.nots.length c3,.slice a4 vs.length c4,.slice a5 r.nots.length c5] 216)):=(by go_grown)
    have hbx:=Box.new w5 #[.int .i64 (r.stratum:Nat),.int .i64 (r.vars:Nat),.int .i64 (r.head.pred:Nat),.slice a1 r.head.terms.length c1,.slice a2 r.plain.length c2,.slice a3 r.nots.length c3,.slice a4 vs.length c4,.slice a5 r.nots.length c5] 216
    have hmA:Mod lo (zh5 dn.length) wr ownk w5 own5:=(Mod.of ownk HGR.out).trans HX.out.2.2
    have HM5:Hid (Mod lo (zh5 dn.length) wr ownk (w5.alloc (.cells #[.int .i64 (r.stratum:Nat),.int .i64 (r.vars:Nat),.int .i64 (r.head.pred:Nat),.slice a1 r.head.terms.length c1,.slice a2 r.plain.length c2,.slice a3 r.nots.length c3,.slice a4 vs.length c4,.slice a5 r.nots.length c5] 216)) own5):=hmA.trans (Mod.of own5 hg5)
    have HK5:Hid (zdy lo (w5.alloc (.cells #[.int .i64 (r.stratum:Nat),.int .i64 (r.vars:Nat),.int .i64 (r.head.pred:Nat),.slice a1 r.head.terms.length c1,.slice a2 r.plain.length c2,.slice a3 r.nots.length c3,.slice a4 vs.length c4,.slice a5 r.nots.length c5] 216)) own5 dn.length wd ⟨r,vs⟩ ⟨.slice a1 r.head.terms.length c1,.slice a2 r.plain.length c2,.slice a3 r.nots.length c3,.slice a4 vs.length c4,.slice a5 r.nots.length c5,vps,nbs⟩):=HX.out.1.mod (Mod.of (ok:=fun _ _=>False) own5 hg5) (fun _=>id) (fun _=>id) id (fun _=>id) (fun _ _ _ _=>id)
    clear hmA hg5
    obtain⟨hcx,hfx⟩:=hbx.rules
    have hlx:=hbx.lt
    generalize hW6:w5.alloc (.cells #[.int .i64 (r.stratum:Nat),.int .i64 (r.vars:Nat),.int .i64 (r.head.pred:Nat),.slice a1 r.head.terms.length c1,.slice a2 r.plain.length c2,.slice a3 r.nots.length c3,.slice a4 vs.length c4,.slice a5 r.nots.length c5] 216)=W6 at *
    clear hW6 hbx
    have HW6:Hid (zch lo W6 own5 wd (.slice aow dn.length capw) dn Ps):=HWO.out.make HM5.out
    have hown6:=HW6.out.arr
    generalize w5.heap.size=t10 at *
    have hlo6:lo<=W6.heap.size:=Nat.le_trans hlok HM5.out.size
    go_wp2_with (first|(at_builtin;refine zca W6 _ [.int .i64 (r.stratum:Nat),.int .i64 (r.vars:Nat),.int .i64 (r.head.pred:Nat),.slice a1 r.head.terms.length c1,.slice a2 r.plain.length c2,.slice a3 r.nots.length c3,.slice a4 vs.length c4,.slice a5 r.nots.length c5] _ rfl (.tmp 24) (.tmp 26) 195 rfl lo 216 i0 _ 8 144 Tryz.underlying195 hi hz0 hzs hzb rfl (by decide) (.slice aow dn.length capw) dn.length (zlt dn Ps) rfl hown6 (by exact(by go_grown)) _ _ rfl (by simp) rfl (by simp[Value.oneCell']) (by omega) (by omega) (by omega) ?_;intro v' w7 ho7 hS7 ha7;obtain⟨aov',capv',hv'e⟩:=zab ho7;subst hv'e;have HS7:Hid (zao _ W6 w7):=hS7;have HA7:Hid (_∨_):=ha7;have HO7:Hid (World.ownsRow w7 lo 216 8 _ _ _):=ho7;clear hS7 ha7 ho7))
    have hpu:=HW6.out.push (W:=⟨r,vs⟩) (P:=⟨.slice a1 r.head.terms.length c1,.slice a2 r.plain.length c2,.slice a3 r.nots.length c3,.slice a4 vs.length c4,.slice a5 r.nots.length c5,vps,nbs⟩) HK5.out (by omega) HO7.out HS7.out
    have hro7:zc6 lo w7 own5 rb R wd mr mx Q:=(HRO.out.make HM5.out).mod hpu.2 (zfb (by decide)) (zfb (by decide)) (zfb (by decide)) (fun _=>zfb (by decide) _) (fun _ t ht q=>by rw[List.mem_singleton.1 q] at ht;exact ht (by decide))
    have hmo7:Mod lo zbs w own w7 own5:=(HMO.out.trans (HM5.out.more fun _ _ q=>ztb q)).newer HS7.out fun b hb=>HNW.out b (by simpa using hb)
    have hz6:=HM5.out.size
    exact⟨⟨m+1,by omega,by go_num,dn++[(⟨r,vs⟩:zbe)],ws2,own5,Ps++[(⟨.slice a1 r.head.terms.length c1,.slice a2 r.plain.length c2,.slice a3 r.nots.length c3,.slice a4 vs.length c4,.slice a5 r.nots.length c5,vps,nbs⟩:za6)],hpu.1,HNL.out.push HW6.out.plen HX.out.2.1,hro7,hmo7,HR2,HD2,show(dn++[(⟨r,vs⟩:zbe)]).length<=m+1 by have:=HDL.out;simp;omega,fun b hb=>by
     rcases HA7.out with e|⟨g',e,hg'⟩
     ·rw[e] at hb;exact HNW.out b hb
     ·rw[e] at hb;simp at hb;omega⟩,by simp[intOf];omega⟩
   ·rw[if_neg hst] at hre
    have HR2:Hid (worksR fuel wd R s (rs.drop (m+1))=some rest):=hre
    have hsi:¬ (r.stratum:Int)=(s:Int):=by omega
    have hgr:Below wr.heap.size wr (wr.alloc (.cells #[.int .i64 (r.stratum:Nat),.int .i64 (r.vars:Nat),.int .i64 (r.head.pred:Nat),.slice aot r.head.terms.length capt,.slice aop r.plain.length capp,.slice aon r.nots.length capn] 150)):=(by go_grown)
    have HGR:Hid (Below wr.heap.size wr _):=hgr
    clear hre hru hgr hok
    go_wp2
    exact⟨⟨m+1,by omega,by go_num,dn,rest,ownk,Ps,HWO.out.below HGR.out,HNL,HRO.out.below HGR.out,HMO.out.trans (Mod.of ownk HGR.out),HR2,HDR,Nat.le_succ_of_le HDL.out,HNW⟩,by simp[intOf];omega⟩
  ·obtain rfl:m=rs.length:=by omega
   have hre:=HRE.out
   rw[List.drop_length] at hre
   simp only[worksR,Option.some.injEq] at hre
   have HE:Hid (dn=ws):=show dn=ws by rw[← HDR.out,← hre];simp
   clear hre
   go_wp2
   go_ret
   exact⟨_,ownk,Ps,rfl,by rw[← HE.out];exact HWO.out,by rw[← HE.out];exact HNL.out,HRO.out,HMO.out⟩
def zrl(lo:Nat)(w:World)(own:Nat->zay)(rb:Nat)(R R':zbt)(wd mr mx:Nat)(Q:zcq)(b:Bool)(e:Ending)(w':World):Prop:=e=.returned (.bool b)/\∃ own' fv' fvs',zc6 lo w' own' rb R' wd mr mx ⟨Q.rv,Q.tbs,fv',fvs'⟩/\R'.rows.length=R.rows.length/\Mod lo zbs w own w' own'
theorem zvy(w:World)(own:Nat->zay)(rb s:Nat)(R R':zbt)(rv:Value)(rs:List zaf)(ps:List (Value × Value × Value))(wd mr mx:Nat)(Q:zcq)(fuel:Nat)(b:Bool)(h:zc6 lo w own rb R wd mr mx Q)(hr:zcr lo w rv rs ps)(hlo:lo<=w.heap.size)(hok:zla R.rows.length rs)(hv:zk6 fuel wd mr mx rs R s=some (R',b)) :
  Calls Tryz.prog 77 #[.pointer (some ⟨rb,0,none⟩),rv,.int .i64 s] w fun e w'=>zrl lo w own rb R R' wd mr mx Q b e w':=by
 unfold zk6 at hv
 cases hws:worksR fuel wd R s rs with
 |none=>rw[hws] at hv;cases hv
 |some ws =>
  rw[hws] at hv
  have HWK:Hid (Calls Tryz.prog 105 #[.pointer (some ⟨rb,0,none⟩),rv,.int .i64 s] w fun e w'=>zrm lo w own rb R ws wd mr mx Q e w'):=z2u w own rb s R rv rs ps ws wd mr mx Q fuel h hr hlo hok hws
  have HLO:Hid (lo<=w.heap.size):=hlo
  have hsm:=h.small
  obtain⟨aor,capr,hrv⟩:=zab hr.own
  subst hrv
  have HV:Hid (if decide (0 < ws.length)=true then zgv wd mr mx fuel true ws R=some (R',b) else(R=R'/\true=b)):=by
   by_cases hz:ws.length > 0
   ·rw[Hid,if_pos (by simpa using hz)]
    simpa [hz] using hv
   ·rw[Hid,if_neg (by simpa using hz)]
    simpa [hz] using hv
  clear h hr hlo hok hws hv
  go_enter Tryz.func77,Tryz.ntmps77
  go_upto_region 4 with (first|(go_at_call 105;refine HWK.out.mono ?_;rintro e w2 ⟨wv,own2,Ps,rfl,hWO,hNL,hRO,hMO⟩;obtain⟨aow,capw,hwv⟩:=zab hWO.arr;subst hwv;have HWO:Hid (zch lo w2 own2 wd (.slice aow ws.length capw) ws Ps):=hWO;have HNL:Hid (zi9 Q.tbs R.rows.length ws Ps):=hNL;have HRO:Hid (zc6 lo w2 own2 rb R wd mr mx Q):=hRO;have HMO:Hid (Mod lo zbs w own w2 own2):=hMO;clear hWO hNL hRO hMO))
  go_loopg [8,9] fuel (fun k v8 v9 wr=>∃(first more:Bool) (Rk:zbt) (ownk:Nat->zay) (fvv:Value) (fvk:List Value) (wk:List zbe) (Pk:List za6),v8=.bool first/\v9=.bool more/\Hid (zc6 lo wr ownk rb Rk wd mr mx ⟨Q.rv,Q.tbs,fvv,fvk⟩)/\Hid (zch lo wr ownk wd (.slice aow ws.length capw) wk Pk)/\Hid (zi9 Q.tbs R.rows.length wk Pk)/\Hid (Mod lo zbs w own wr ownk)/\Hid (Rk.rows.length=R.rows.length)/\Hid (if more=true then zgv wd mr mx k first wk Rk=some (R',b) else(Rk=R'/\true=b)))
  case atStart =>
   exact⟨true,decide (0 < ws.length),R,own2,Q.fv,Q.fvs,ws,Ps,rfl,rfl,HRO,HWO,HNL,HMO,rfl,HV⟩
  case round =>
   clear HWO HNL HRO HMO HV
   obtain⟨first,more,Rk,ownk,fvv,fvk,wk,Pk,rfl,rfl,HRO,HWO,HNL,HMO,HRL,HV⟩:=hrel
   cases more with
   |false =>
    have hv:Rk=R'/\true=b:=by simpa using HV.out
    have HE:Hid (Rk=R'/\true=b):=hv
    clear hv
    go_wp2
    go_ret
    exact⟨by rw[← HE.out.2];rfl,ownk,fvv,fvk,by rw[← HE.out.1];exact HRO.out,by rw[← HE.out.1];exact HRL.out,HMO.out⟩
   |true =>
    have hv:zgv wd mr mx gk first wk Rk=some (R',b):=by simpa using HV.out
    clear HV
    cases gk with
    |zero=>simp[zgv] at hv
    |succ m =>
     unfold zgv at hv
     obtain⟨hl,hf,h0,h1,h2,h3,h4,h5,h6,h7⟩:=HRO.out.at
     have hlok:lo<=wr.heap.size:=Nat.le_trans HLO.out HMO.out.size
     clear h0 h3 h4 h5 h7
     by_cases hge:Rk.rounds ≥ mx
     ·rw[if_pos hge] at hv
      have HE:Hid (Rk=R'/\false=b):=show Rk=R'/\false=b by simpa using hv
      have hgi:(mx:Int)<=(Rk.rounds:Int):=by omega
      clear hv
      go_upto_region 5 with fail
      go_quiet (fail)
      have hD:Below wr.heap.size wr (wr.drewN nq):=zax (Below.refl _ _) nq
      have HD:Hid (Below wr.heap.size wr (wr.drewN nq)):=hD
      clear hD
      generalize wr.drewN nq=w3 at *
      go_wp2
      go_ret
      exact⟨by rw[← HE.out.2];rfl,ownk,fvv,fvk,by rw[← HE.out.1];exact HRO.out.below HD.out,by rw[← HE.out.1];exact HRL.out,HMO.out.trans (Mod.of ownk HD.out)⟩
     ·rw[if_neg hge] at hv
      have hgi:¬ (mx:Int)<=(Rk.rounds:Int):=by omega
      cases hrr:zpz m wd mr first wk Rk with
      |none=>rw[hrr] at hv;cases hv
      |some x =>
       obtain⟨R3,ws3,b3⟩:=x
       rw[hrr] at hv
       have HRD:Hid (∀ W0,Below wr.heap.size wr W0->Calls Tryz.prog 106 #[.pointer (some ⟨rb,0,none⟩),.slice aow ws.length capw,.bool first] W0 fun e w'=>zrj lo W0 ownk rb (.slice aow ws.length capw) Rk R3 ws3 wd mr mx ⟨Q.rv,Q.tbs,fvv,fvk⟩ b3 e w'):=fun W0 hb=>z1x W0 ownk rb _ Rk R3 wk ws3 Pk wd mr mx _ m first b3 (HRO.out.below hb) (HWO.out.below hb) (by rw[HRL.out];exact HNL.out) (Nat.le_trans hlok hb.size) (by omega) hrr
       clear hrr
       have HNX:Hid ((b3=false->R3=R'/\false=b)/\(b3=true->(if R3.count > Rk.count then zgv wd mr mx m false ws3 R3 else some (R3,true))=some (R',b))):=⟨fun e=>by subst e;simpa using hv,fun e=>by subst e;exact hv⟩
       clear hv
       go_upto_region 5 with fail
       go_quiet (fail)
       have hD:Below wr.heap.size wr (wr.drewN nq):=zax (Below.refl _ _) nq
       have x1:=(hD.cell (p:=⟨rb,1,none⟩) hl).trans h1
       have HD:Hid (Below wr.heap.size wr (wr.drewN nq)):=hD
       have hl3:rb < (wr.drewN nq).heap.size:=Nat.lt_of_lt_of_le hl hD.size
       clear hD
       generalize wr.drewN nq=w3 at *
       clear h1 h2 h6 hf hl
       cases b3 with
       |false =>
        have HE:Hid (R3=R'/\false=b):=HNX.out.1 rfl
        go_wp2_with (first|(go_at_call 106;refine(HRD.out _ HD.out).mono ?_;rintro e w4 ⟨rfl,own4,fv4,fvs4,Ps4,hr4,hw4,hn4,hl4,hm4⟩))
        go_ret
        exact⟨by rw[← HE.out.2];rfl,own4,fv4,fvs4,by rw[← HE.out.1];exact hr4,by rw[← HE.out.1];exact hl4.trans HRL.out,(HMO.out.trans (Mod.of ownk HD.out)).trans hm4⟩
       |true =>
        have HE:Hid (if decide (Rk.count < R3.count)=true then zgv wd mr mx m false ws3 R3=some (R',b) else(R3=R'/\true=b)):=by
         have q:=HNX.out.2 rfl
         by_cases hc:R3.count > Rk.count
         ·rw[Hid,if_pos (by simpa using hc)]
          simpa [hc] using q
         ·rw[Hid,if_neg (by simpa using hc)]
          simpa [hc] using q
        clear HNX
        go_wp2_with (first|(go_at_call 106;refine(HRD.out _ HD.out).mono ?_;rintro e w4 ⟨rfl,own4,fv4,fvs4,Ps4,hr4,hw4,hn4,hl4,hm4⟩;obtain⟨hl5,_,_,y1,_⟩:=hr4.at;have HR4:Hid (zc6 lo w4 own4 rb R3 wd mr mx ⟨Q.rv,Q.tbs,fv4,fvs4⟩):=hr4;clear hr4))
        go_roundg m
        case measure=>omega
        case rel=>exact⟨false,decide (Rk.count < R3.count),R3,own4,fv4,fvs4,ws3,Ps4,rfl,by simp,HR4,hw4,by rw[← HRL.out];exact hn4,(HMO.out.trans (Mod.of ownk HD.out)).trans hm4,hl4.trans HRL.out,HE⟩
end Go.Proofs.YteampbddflhngabGreat
