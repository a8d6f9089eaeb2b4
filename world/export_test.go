package world

import "escritoire/client"

// Client is a fork of one of the clients.
func (w *World) Client(who byte) *client.Client { return w.client(who).Fork() }
