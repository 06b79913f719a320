package driver

import "wharfinger/api"

// perform does a call that is right, and newer than all of its target.
func (d *Driver) perform(c api.Call) api.Result {
	switch c.Verb {
	case api.Create:
		return d.create(c)
	case api.Erase:
		return d.erase(c.Target)
	case api.Publish:
		return d.publish(c.Target, c.Node)
	case api.Unpublish:
		return d.unpublish(c.Target, c.Node)
	case api.Expand:
		return d.expand(c.Target, c.Size)
	case api.Cut:
		return d.cut(c.Target, c.Source)
	}
	return d.drop(c.Target)
}

func (d *Driver) create(c api.Call) api.Result {
	if v, ok := d.volumes[c.Target]; ok {
		if v.size < c.Size {
			return failed(api.ErrSmall)
		}
		return made(v)
	}
	room, ok := d.rooms[c.Zone]
	if !ok {
		return failed(api.ErrNone)
	}
	from, ok := d.source(c.Source)
	switch {
	case !ok:
		return failed(api.ErrNone)
	case from.size > c.Size:
		return failed(api.ErrSmall)
	case len(d.volumes) >= api.MaxVolumes:
		return failed(api.ErrFull)
	case room < c.Size:
		return failed(api.ErrSpace)
	}
	v := volume{content{c.Size, from.tag}, c.Zone, map[string]struct{}{}}
	d.volumes[c.Target] = v
	d.rooms[c.Zone] -= c.Size
	return made(v)
}

func made(v volume) api.Result {
	return api.Result{Size: v.size, Zone: v.zone, Tag: v.tag}
}

// source is what a volume is made of: nothing, or a snapshot, or else a volume; false: there is neither.
func (d *Driver) source(name string) (content, bool) {
	if name == "" {
		return content{}, true
	}
	if s, ok := d.snaps[name]; ok {
		return s, true
	}
	v, ok := d.volumes[name]
	return v.content, ok
}

func (d *Driver) erase(name string) api.Result {
	v, ok := d.volumes[name]
	if len(v.nodes) > 0 {
		return failed(api.ErrBusy)
	}
	if ok {
		delete(d.volumes, name)
		d.rooms[v.zone] += v.size
	}
	return api.Result{}
}

func (d *Driver) publish(name, node string) api.Result {
	v, ok := d.volumes[name]
	if !ok {
		return failed(api.ErrNone)
	}
	v.nodes[node] = struct{}{}
	return api.Result{}
}

func (d *Driver) unpublish(name, node string) api.Result {
	delete(d.volumes[name].nodes, node)
	return api.Result{}
}

func (d *Driver) expand(name string, size int64) api.Result {
	v, ok := d.volumes[name]
	if !ok {
		return failed(api.ErrNone)
	}
	if missing := size - v.size; missing > 0 {
		if d.rooms[v.zone] < missing {
			return failed(api.ErrSpace)
		}
		v.size = size
		d.volumes[name] = v
		d.rooms[v.zone] -= missing
	}
	return api.Result{Size: v.size}
}

func (d *Driver) cut(name, source string) api.Result {
	if s, ok := d.snaps[name]; ok {
		return kept(s)
	}
	v, ok := d.volumes[source]
	if !ok {
		return failed(api.ErrNone)
	}
	if len(d.snaps) >= api.MaxSnaps {
		return failed(api.ErrFull)
	}
	d.snaps[name] = v.content
	return kept(v.content)
}

func kept(s content) api.Result {
	return api.Result{Size: s.size, Tag: s.tag}
}

func (d *Driver) drop(name string) api.Result {
	delete(d.snaps, name)
	return api.Result{}
}
